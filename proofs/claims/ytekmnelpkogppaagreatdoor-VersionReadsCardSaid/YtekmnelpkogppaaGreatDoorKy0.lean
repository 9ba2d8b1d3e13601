import Derived.Test.YtekmnelpkogppaaGreatDoorProg
import Derived.Test.YtekmnelpkogppaaGreatDoorShelf
import Derived.WalkKit
import Derived.WalkSpells
import Derived.WalkLawsBesides
import Derived.BigQuiet
import Derived.Deep.QuietTactic
import Derived.Deep.DeepFit
import Derived.Deep.DeepMust
import Derived.Maps.AppendAt
import Derived.Deep.AppendLies
import Derived.RegionTactic
import Derived.OwnWalk
import Derived.Lib.Hide
import Derived.Laws.EntriesVeiled
import Derived.OrdersHeld
import Derived.Deep.LoopGhost
import Derived.Deep.DeepCutAuto
import Derived.Deep.CutBlock
import Derived.Deep.RegionHeld3
import Derived.OneCell
import Derived.Laws.BytesArg
import Derived.Laws.RangeAny
import Derived.Laws.Runes
import Derived.LoopTactic
import Derived.WalkMore
import Derived.Maps.OwnOps
import Derived.Maps.OwnSet
import Derived.Laws.MakeOwn
import Derived.RangeFuncNested
import Derived.RangeFuncBound
import Derived.RangeFuncCalls
import Derived.RangeFuncLeaves
import Derived.Shelf.Abstract
import Derived.OwnWalkIn
import Derived.TacticsInMore
import Derived.LoopNIn
import Derived.LoopIn
import Derived.Sort.LoopGhostIn
import Derived.Recover
import Derived.Laws.OwnMore
import Derived.Lib.OwnBridge
import Derived.Sort.Walk7a
import Derived.Lib.ItoaNum
import Derived.Laws.Bits64b
import Derived.Laws.IdiomStrings
import Derived.ProofKit
import Derived.Carry
import Derived.HandedShaped
import Derived.Deep.Strs
import Derived.Deep.Fields
import Derived.OpenShut
import Derived.Deep.Slices
import Derived.Lib.LaidTab
import Derived.Lib.SplitLaws
import Derived.MakeChecks
import Derived.Lib.ConvBytes
import Derived.Lib.Repeat
import Derived.Lib.Join
import Derived.Lib.SlicesS
import Derived.Shelf.SlicesE.Kit
set_option linter.unusedVariables false
set_option linter.unusedSimpArgs false
set_option maxRecDepth 100000
set_option maxHeartbeats 40000000
namespace Go.Proofs.YtekmnelpkogppaaGreatDoor
section
open Go.RowKit Go.Lib
theorem LS : ((∀ (l : List Value) (i : Nat) (h : i < l.toArray.size), l.toArray[i] = l[i]'(by simpa using h)) ∧ (∀ (a : Value) (l : List Value) (h : 0 < (a :: l).length), (a :: l)[0] = a) ∧ (∀ (a : Value) (l : List Value) (i : Nat) (h : i + 1 < (a :: l).length), (a :: l)[i + 1] = l[i]'(by simpa using h))) ∧ ((∀ (l : List Value) (i : Nat) (a : Value), l.toArray.setIfInBounds i a = (l.set i a).toArray) ∧ (∀ (l : List Bool) (i : Nat) (a : Bool), l.toArray.setIfInBounds i a = (l.set i a).toArray)) ∧ ((∀ (x y : Value) (l : List Value), (x :: l).set 0 y = y :: l) ∧ (∀ (x y : Bool) (l : List Bool), (x :: l).set 0 y = y :: l)) ∧ (∀ (x y : Value) (l : List Value) (i : Nat), (x :: l).set (i + 1) y = x :: l.set i y) ∧ (∀ (x y : Bool) (l : List Bool) (i : Nat), (x :: l).set (i + 1) y = x :: l.set i y) := ⟨⟨fun _ _ _ => by simp, fun _ _ _ => rfl, fun _ _ _ _ => rfl⟩, ⟨fun _ _ _ => by simp, fun _ _ _ => by simp⟩, ⟨fun _ _ _ => rfl, fun _ _ _ => rfl⟩, fun _ _ _ _ => rfl, fun _ _ _ _ => rfl⟩
end
section
set_option linter.unusedVariables false
set_option linter.unusedSimpArgs false
section -- WkK
open Go.RowKit
theorem add_of_add (a : Addr) (i j : Nat) : (a.add i).add j = a.add (i + j) := by
 unfold Addr.add
 by_cases hi : i = 0 <;> by_cases hj : j = 0 <;> simp [hi, hj, Nat.add_assoc]
def Reads (w : World) (B size : Nat) (A : Option Addr) (n : Nat) (xs : List Value) : Prop :=
 xs.length = n * size ∧ (0 < n → ∃ ad, A = some ad ∧ ad.block < B ∧ ∀ j u, xs[j]? = some u → w.cell? (ad.add j) = some u)
section
variable {w w' : World} {B B' size n : Nat} {A : Option Addr} {xs : List Value}
end
def Blk (w : World) (g : Nat) (t : TypeId) (cs : Array Value) : Prop := w.heap[g]? = some (.cells cs t (0, 0))
section
variable {w w' : World} {g : Nat} {t : TypeId} {cs : Array Value}
theorem Blk.lt (h : Blk w g t cs) : g < w.heap.size := by
 rcases Nat.lt_or_ge g w.heap.size with hlt | hge
 ·exact hlt
 ·unfold Blk at h; rw [Array.getElem?_eq_none hge] at h; cases h
theorem Blk.cell (h : Blk w g t cs) (i : Nat) : w.cell? ⟨g, i, none⟩ = cs[i]? := cell_of_row w g i cs t (0, 0) h
theorem Blk.frozen (h : Blk w g t cs) (i : Nat) : w.frozen? ⟨g, i, none⟩ = false := by
 unfold Blk at h
 simp [World.frozen?, h]
theorem Blk.new (w : World) (t : TypeId) (cs : Array Value) : Blk (w.alloc (.cells cs t)) w.heap.size t cs := heap_alloc_new w _
theorem Blk.drew (h : Blk w g t cs) : Blk w.drew g t cs := h
theorem Blk.alloc (h : Blk w g t cs) (o : Obj) : Blk (w.alloc o) g t cs := (Below.heap_alloc w o g h.lt).trans h
theorem Blk.set_ (h : Blk w g t cs) (i : Nat) (u : Value) : Blk (w.setCell ⟨g, i, none⟩ u) g t (cs.setIfInBounds i u) := by
 unfold Blk at h ⊢
 simp [World.setCell, Array.getElem?_modify, h]
theorem Blk.far (h : Blk w g t cs) {p : Addr} (hp : g ≠ p.block) (u : Value) : Blk (w.setCell p u) g t cs := (Below.heap_setCell w p u g hp).trans h
theorem Blk.below {B : Nat} (h : Blk w g t cs) (hb : Below B w w') (hg : g < B) : Blk w' g t cs := (hb.block g hg).trans h
theorem Blk.grown {row : Option Nat} (h : Blk w g t cs) (hb : w.grownBy w' row) (hg : some g ≠ row) : Blk w' g t cs := (hb.block g h.lt hg).trans h
theorem Blk.ne_ {g' : Nat} {t' : TypeId} {cs' : Array Value} (h : Blk w g t cs) (h' : Blk w g' t' cs') (hne : t ≠ t') : g ≠ g' := by
 rintro rfl
 unfold Blk at h h'
 rw [h] at h'
 injection h' with h'
 injection h' with _ ht
 exact hne ht
theorem own_blk_ne {base : Nat} {e : TypeId} {size n : Nat} {v : Value} {xs : List Value} (h : w.ownsRow base e size v n xs) (hg : Blk w g t cs) (hne : e ≠ t) : v.ownBlock ≠ some g := by
 rcases h.2 with ⟨rfl, _⟩ | ⟨g', cap, cur, rfl, _, hh, _⟩
 ·simp [Value.ownBlock]
 ·intro he
  have : g' = g := by simpa [Value.ownBlock] using he
  subst this
  exact Blk.ne_ (t := e) hh hg hne rfl
end
section
variable {P : Program} (w : World)
theorem run_append_of_nil (base : Nat) (t ty e : TypeId) (i : TypeInfo) (size : Nat) (ht : P.underlying t = some (.slice e)) (hi : P.info? e = some i)
  (v : Value) (n : Nat) (xs : List Value) (hown : w.ownsRow base e size v n xs) (c : Nat) : (Builtin.append_ #[t, t] ty #[v, .slice none 0 c]).run P w = .ok v w := by
 rcases hown.2 with ⟨rfl, rfl⟩ | ⟨g, cap, cur, rfl, _, _, hnc, _⟩
 ·simp [Builtin.append_, run_underlying ht, sizeOf, typeInfo, hi, Builtin.lenOf, Builtin.firstCells]
 ·simp [Builtin.append_, run_underlying ht, sizeOf, typeInfo, hi, Builtin.lenOf, Builtin.firstCells, hnc, storeCells]
theorem run_append_any (base : Nat) (t ty e : TypeId) (i : TypeInfo) (z : Value) (size bytes : Nat) (ht : P.underlying t = some (.slice e)) (hi : P.info? e = some i) (hz : i.zero = some z)
  (hsize : i.size = size) (hby : i.bytes = bytes) (hzs : z.cells.size = size) (hsz : 0 < size)
  (v : Value) (n : Nat) (xs : List Value) (hown : w.ownsRow base e size v n xs)
  (B : Nat) (A : Option Addr) (m c : Nat) (news : List Value) (hr : Reads w B size A m news) (h1 : ∀ u ∈ news, u.oneCell' = true)
  (h63 : n + m ≤ maxLen) (hbytes : (n + m) * bytes ≤ 140737488355328) (hbase : base ≤ w.heap.size) :
  ∃ v' w', (Builtin.append_ #[t, t] ty #[v, .slice A m c]).run P w = .ok v' w' ∧ w'.ownsRow base e size v' (n + m) (xs ++ news) ∧ w.grownBy w' v.ownBlock ∧
   (v'.ownBlock = v.ownBlock ∨ v'.ownBlock = some w.heap.size) := by
 rcases A with _ | ad
 ·have hm : m = 0 := by
   rcases Nat.eq_zero_or_pos m with h0 | h0
   ·exact h0
   ·obtain ⟨ad, h, _⟩ := hr.2 h0
    cases h
  subst hm
  have hn : news = [] := List.eq_nil_of_length_eq_zero (by simpa using hr.1)
  subst hn
  exact ⟨v, w, run_append_of_nil w base t ty e i size ht hi v n xs hown c, by simpa using hown, World.grownBy.refl w _, .inl rfl⟩
 ·have hcells : ∀ j u, news[j]? = some u → w.cell? (ad.add j) = some u := by
   intro j u hu
   rcases Nat.eq_zero_or_pos m with h0 | h0
   ·subst h0
    have hn : news = [] := List.eq_nil_of_length_eq_zero (by simpa using hr.1)
    subst hn
    simp at hu
   ·obtain ⟨ad', h, _, hc⟩ := hr.2 h0
    injection h with h
    subst h
    exact hc j u hu
  obtain ⟨v', w', hrun, h2, h3, _, h5⟩ := run_append_own_at (P := P) w base t ty e i z size bytes ht hi hz hsize hby hzs hsz v n xs hown ad m c news hr.1 hcells h1 h63 hbytes hbase
  exact ⟨v', w', hrun, h2, h3, h5⟩
theorem wp_append_any {o : Oper} {a : Act} {K : Act → World → Prop} {Q : Exit → Act → World → Prop} (s x : Operand) (t : TypeId)
  (ho : o.op = .call { callee := .builtin .append, args := #[s, x], argTypes := #[t, t] })
  (base : Nat) (e : TypeId) (i : TypeInfo) (z : Value) (size bytes : Nat) (ht : P.underlying t = some (.slice e)) (hi : P.info? e = some i) (hz : i.zero = some z)
  (hsize : i.size = size) (hby : i.bytes = bytes) (hzs : z.cells.size = size) (hsz : 0 < size)
  (v : Value) (n : Nat) (xs : List Value) (hs : a.eval s = v) (hown : w.ownsRow base e size v n xs)
  (B : Nat) (A : Option Addr) (m c : Nat) (news : List Value) (hx : a.eval x = .slice A m c) (hr : Reads w B size A m news) (h1 : ∀ u ∈ news, u.oneCell' = true)
  (h63 : n + m ≤ maxLen) (hbytes : (n + m) * bytes ≤ 140737488355328) (hbase : base ≤ w.heap.size)
  (h : ∀ v' w', w'.ownsRow base e size v' (n + m) (xs ++ news) → w.grownBy w' v.ownBlock → (v'.ownBlock = v.ownBlock ∨ v'.ownBlock = some w.heap.size) → K (a.put o.dst v') w') : o.wp P a w K Q := by
 obtain ⟨v', w', hrun, h2, h3, h4⟩ := run_append_any (P := P) w base t o.type e i z size bytes ht hi hz hsize hby hzs hsz v n xs hown B A m c news hr h1 h63 hbytes hbase
 unfold Oper.wp execOp
 simp only [ho, resolve, invoke, builtin, Sem.run_bind, Sem.run_pure, Result.andThen_ok, List.map_toArray, List.map_cons, List.map_nil, hs, hx, hrun]
 exact h v' w' h2 h3 h4
theorem wpList_append_any {ops : Array Oper} {rest : List Oper} {o : Oper} {a : Act} {Q : Exit → Act → World → Prop} (hgd : o.guard = none) (s x : Operand) (t : TypeId)
  (ho : o.op = .call { callee := .builtin .append, args := #[s, x], argTypes := #[t, t] })
  (base : Nat) (e : TypeId) (i : TypeInfo) (z : Value) (size bytes : Nat) (ht : P.underlying t = some (.slice e)) (hi : P.info? e = some i) (hz : i.zero = some z)
  (hsize : i.size = size) (hby : i.bytes = bytes) (hzs : z.cells.size = size) (hsz : 0 < size)
  (v : Value) (n : Nat) (xs : List Value) (hs : a.eval s = v) (hown : w.ownsRow base e size v n xs)
  (B : Nat) (A : Option Addr) (m c : Nat) (news : List Value) (hx : a.eval x = .slice A m c) (hr : Reads w B size A m news) (h1 : ∀ u ∈ news, u.oneCell' = true)
  (h63 : n + m ≤ maxLen) (hbytes : (n + m) * bytes ≤ 140737488355328) (hbase : base ≤ w.heap.size)
  (h : ∀ v' w', w'.ownsRow base e size v' (n + m) (xs ++ news) → w.grownBy w' v.ownBlock → (v'.ownBlock = v.ownBlock ∨ v'.ownBlock = some w.heap.size) → wpList P ops Q rest (a.put o.dst v') w') : wpList P ops Q (o :: rest) a w :=
 wpList_plain hgd fun _ hK => wp_append_any w s x t ho base e i z size bytes ht hi hz hsize hby hzs hsz v n xs hs hown B A m c news hx hr h1 h63 hbytes hbase fun v' w' h2 h3 h4 => hK _ _ (h v' w' h2 h3 h4)
end
structure Blw (B : Nat) (w : World) where
 toW : World
 h : Below B w toW
instance (B : Nat) (w : World) : Inhabited (Blw B w) := ⟨⟨w, Below.refl B w⟩⟩
theorem wp_region_blw {P : Program} {id : Nat} {Q : Exit → Act → World → Prop} {a : Act} {w : World} {l : List Oper} (hm : P.follows .mixedOrders = true) (hB : Region.lexB .any l.toArray = true)
  (h : wpQuiet P l.toArray (fun w' => ∃ p : Blw w.heap.size w, w' = p.toW) (fun a' => ∀ w', (∃ p : Blw w.heap.size w, w' = p.toW) → Q .normal a' w') l a) : (Code.region id l.toArray true).wp P Q a w :=
 wp_region_quiet (C := fun w' => ∃ p : Blw w.heap.size w, w' = p.toW) hm hB ⟨⟨_, (Below.refl _ w).drew⟩, rfl⟩ (by simpa using h)
theorem Calls.blw_of {P : Program} {f : FuncId} {args : Array Value} {w : World} (p : Blw w.heap.size w) {v : Value}
  (h : Calls P f args p.toW fun e w' => e = .returned v ∧ Below p.toW.heap.size p.toW w') : Calls P f args p.toW fun e w'' => e = .returned v ∧ ∃ q : Blw w.heap.size w, w'' = q.toW :=
 h.mono fun _ _ ⟨he, hb⟩ => ⟨he, ⟨⟨_, p.h.trans (hb.mono p.h.size)⟩, rfl⟩⟩
theorem Calls.blw_of_same {P : Program} {f : FuncId} {args : Array Value} {w : World} (p : Blw w.heap.size w) {v : Value}
  (h : Calls P f args p.toW fun e w' => e = .returned v ∧ p.toW = w') : Calls P f args p.toW fun e w'' => e = .returned v ∧ ∃ q : Blw w.heap.size w, w'' = q.toW :=
 h.mono fun _ _ ⟨he, hb⟩ => ⟨he, ⟨p, hb.symm⟩⟩
theorem blw_cell {w : World} {a : Addr} {v : Value} (hb : a.block < w.heap.size) (h : w.cell? a = some v) (p : Blw w.heap.size w) : p.toW.cell? a = some v := (p.h.cell hb).trans h
theorem blw_blk {w : World} {g : Nat} {t : TypeId} {cs : Array Value} (h : Blk w g t cs) (p : Blw w.heap.size w) (i : Nat) : p.toW.cell? ⟨g, i, none⟩ = cs[i]? := (h.below p.h h.lt).cell i
end
section -- WkA
open Go.RowKit
def inB (n lo hi : Int) : Bool := decide (lo ≤ n) && decide (n ≤ hi)
end
section -- WkK2
open Go.RowKit
def Rd (w : World) (B sz : Nat) (A : Option Addr) (n : Nat) (xs : List Value) : Prop :=
 xs.length = n * sz ∧ (0 < n → ∃ b off, A = some ⟨b, off, none⟩ ∧ b < B ∧ ∀ j u, xs[j]? = some u → w.cell? ⟨b, off + j, none⟩ = some u)
section
variable {w w' : World} {B B' sz n : Nat} {A : Option Addr} {xs : List Value}
theorem Rd.nil (w : World) (B sz : Nat) (A : Option Addr) : Rd w B sz A 0 [] := ⟨by simp, fun h => absurd h (by omega)⟩
theorem Rd.atm {α : Type} {zs : List α} {f : α → Value} {k : Nat} (h : Rd w B 1 A n (zs.map f)) (hk : k < n) : ∃ b off, ∃ hz : k < zs.length, A = some ⟨b, off, none⟩ ∧ b < B ∧ w.cell? ⟨b, off + k, none⟩ = some (f zs[k]) := by
 obtain ⟨b, off, e, hb, hc⟩ := h.2 (by omega)
 have hl : k < zs.length := by have := h.1; simp at this; omega
 exact ⟨b, off, hl, e, hb, hc k _ (by simp [hl])⟩
theorem Rd.len {α : Type} {zs : List α} {f : α → Value} (h : Rd w B 1 A n (zs.map f)) : zs.length = n := by simpa using h.1
theorem Rd.keep (h : Rd w B sz A n xs) (hk : ∀ p : Addr, p.block < B → w'.cell? p = w.cell? p) : Rd w' B sz A n xs :=
 ⟨h.1, fun hn => by
   obtain ⟨b, off, e, hb, hc⟩ := h.2 hn
   exact ⟨b, off, e, hb, fun j u hu => (hk _ hb).trans (hc j u hu)⟩⟩
theorem Rd.more (h : Rd w B sz A n xs) (hB : B ≤ B') : Rd w B' sz A n xs :=
 ⟨h.1, fun hn => by
   obtain ⟨b, off, e, hb, hc⟩ := h.2 hn
   exact ⟨b, off, e, by omega, hc⟩⟩
theorem Rd.below (h : Rd w B sz A n xs) (hb : Below B w w') : Rd w' B sz A n xs := h.keep fun _ hp => hb.cell hp
theorem Rd.drew (h : Rd w B sz A n xs) : Rd w.drew B sz A n xs := h
theorem Rd.alloc (h : Rd w B sz A n xs) (hB : B ≤ w.heap.size) (o : Obj) : Rd (w.alloc o) B sz A n xs := h.keep fun p hp => World.cell?_alloc_lt w o p (by omega)
theorem Rd.cut (h : Rd w B sz A n xs) {k m cap : Nat} (hk : k ≤ m) (hm : m ≤ n) (hc : n ≤ cap) :
  Rd w B sz (if cap = k then A else A.map (·.add (k * sz))) (m - k) ((xs.drop (k * sz)).take ((m - k) * sz)) := by
 have hlen := h.1
 have e1 : (m - k) * sz ≤ n * sz - k * sz := by rw [← Nat.sub_mul]; exact Nat.mul_le_mul_right _ (by omega)
 refine ⟨by rw [List.length_take, List.length_drop, hlen]; omega, fun hn => ?_⟩
 obtain ⟨b, off, rfl, hb, hcell⟩ := h.2 (by omega)
 rw [if_neg (by omega)]
 refine ⟨b, off + k * sz, by simp [Addr.add], hb, fun j u hu => ?_⟩
 have hj : j < (m - k) * sz := by
  rcases Nat.lt_or_ge j ((m - k) * sz) with hj | hj
  ·exact hj
  ·rw [List.getElem?_eq_none (by rw [List.length_take]; omega)] at hu; cases hu
 rw [List.getElem?_take_of_lt hj, List.getElem?_drop] at hu
 rw [Nat.add_assoc]
 exact hcell _ u hu
theorem Rd.of_own {base : Nat} {e : TypeId} {c : Nat} (h : w.ownsRow base e sz (.slice A n c) n xs) : Rd w w.heap.size sz A n xs := by
 refine ⟨h.1, fun hn => ?_⟩
 obtain ⟨g, cap, hv, _, hlt⟩ := h.form hn
 have hA : A = some ⟨g, 0, none⟩ := by injection hv
 subst hA
 exact ⟨g, 0, rfl, hlt, fun j u hu => by
   have := h.cells (g := g) rfl j u hu
   simp only [Addr.add] at this
   split at this
   · rename_i h0; subst h0; exact this
   · exact this⟩
theorem Rd.reads (h : Rd w B sz A n xs) : Reads w B sz A n xs := ⟨h.1, fun hn => by
  obtain ⟨b, off, rfl, hb, hc⟩ := h.2 hn
  refine ⟨_, rfl, hb, fun j u hu => ?_⟩
  have := hc j u hu
  simp only [Addr.add]
  split
  · rename_i h0; subst h0; exact this
  · exact this⟩
end
theorem ret_int {k : IntKind} {a b : Int} (h : a = b) : Ending.returned (.int k a) = .returned (.int k b) := by rw [h]
theorem ret_bool {a b : Bool} (h : a = b) : Ending.returned (.bool a) = .returned (.bool b) := by rw [h]
end
section -- WkR
open Go.RowKit
section
variable {P : Program} {ops : Array Oper} {md : Region.Mode} {Q : Exit → Act → World → Prop} {T : World → Prop} {L : Nat}
def wpG (P : Program) (md : Region.Mode) (ops : Array Oper) (Q : Exit → Act → World → Prop) (T : World → Prop) (L : Nat) : Nat → Array Bool → Act → World → Prop
 | 0, listed, a, w => Region.ready md ops listed = [] ∧ Q .normal a w
 | fuel + 1, listed, a, w =>
  (Region.ready md ops listed = [] → Q .normal a w) ∧
  ∀ i ∈ Region.ready md ops listed, wpOp P ops Q i (fun a' w' => (i = L ∨ T w') ∧ wpG P md ops Q T L fuel (listed.setIfInBounds i true) a' w') a w
theorem wpAny_of_wpG : ∀ (fuel : Nat) (listed : Array Bool) (a : Act) (w : World), wpG P md ops Q T L fuel listed a w → wpAny P md ops Q fuel listed a w
 | 0, _, _, _, h => h
 | fuel + 1, _, _, _, h => ⟨h.1, fun i hi => wpOp_mono (fun a' w' h' => wpAny_of_wpG fuel _ a' w' h'.2) (h.2 i hi)⟩
theorem wpG_first {i : Nat} {oi oL : Oper} {v : Value} (hi : ops[i]? = some oi) (hoL : ops[L]? = some oL) (hLi : ∃ e ∈ oL.after, Region.binds md e = true ∧ e.on = i) (hsel : ∀ (j : Nat) (o : Oper) cs b, ops[j]? = some o → o.op ≠ .select cs b)
  (hQ : ∀ c a w, Q (.panic c) (a.put oi.dst v) w → Q (.panic c) a w) :
  ∀ (fuel : Nat) (listed : Array Bool) (a : Act) (w : World),
   (∀ j oj, ops[j]? = some oj → j ≠ i → listed.getD j true = false → (∀ e ∈ oj.after, Region.binds md e = true → e.on ≠ i) → oi.apart ops oj = true) →
   i ∈ Region.ready md ops listed → YieldsIf P ops T oi v a → T w →
   wpG P md ops Q T L fuel (listed.setIfInBounds i true) (a.put oi.dst v) w → wpG P md ops Q T L (fuel + 1) listed a w := by
 intro fuel
 induction fuel with
 | zero =>
  intro listed a w _ hr hy hS H
  refine ⟨fun h => (by rw [h] at hr; cases hr), fun j hj => ?_⟩
  by_cases hji : j = i
  ·subst hji; exact hy.wpOp hi hS ⟨.inr hS, H⟩
  ·have := ready_mono hj hji
   rw [H.1] at this
   cases this
 | succ fuel ih =>
  intro listed a w hfree hr hy hS H
  refine ⟨fun h => (by rw [h] at hr; cases hr), fun j hj => ?_⟩
  by_cases hji : j = i
  ·subst hji; exact hy.wpOp hi hS ⟨.inr hS, H⟩
  ·have h1 := H.2 j (ready_mono hj hji)
   obtain ⟨hjun, oj, hoj, hall⟩ := mem_ready.1 hj
   have hnot : ∀ e ∈ oj.after, Region.binds md e = true → e.on ≠ i := fun e he hb heq => by
    have h1 := hall e he hb
    have h0 := (mem_ready.1 hr).1
    rw [heq] at h1
    rcases Nat.lt_or_ge i listed.size with h' | h'
    ·simp [h'] at h0 h1; rw [h0] at h1; cases h1
    ·simp [Array.getElem?_eq_none h'] at h1
   have hjL : j ≠ L := fun e => by
    subst e
    obtain rfl : oj = oL := Option.some.inj (hoj.symm.trans hoL)
    obtain ⟨e, he, hb, hon⟩ := hLi
    exact hnot e he hb hon
   have h2 := wpOp_putIf hoj (hfree j oj hoj hji hjun hnot) (fun cs b => hsel i oi cs b hi) (fun cs b => hsel j oj cs b hoj) hQ hy h1
   have hfree' : ∀ k ok, ops[k]? = some ok → k ≠ i → (listed.setIfInBounds j true).getD k true = false →
     (∀ e ∈ ok.after, Region.binds md e = true → e.on ≠ i) → oi.apart ops ok = true := fun k ok hk hki hun hno => by
    refine hfree k ok hk hki ?_ hno
    by_cases hjk : j = k
    ·subst hjk; exact hjun
    ·rw [getD_set_ne true hjk] at hun; exact hun
   refine wpOp_mono (fun a' w' h3 => ?_) h2
   have hT : T w' := h3.2.1.resolve_left hjL
   refine ⟨.inr hT, ih (listed.setIfInBounds j true) a' w' hfree' (ready_mono hr (Ne.symm hji)) h3.1 hT ?_⟩
   rw [Array.setIfInBounds_comm _ _ hji]
   exact h3.2.2
def lastWaits (md : Region.Mode) (ops : Array Oper) (L i : Nat) : Bool :=
 match ops[L]? with
 | some o => o.after.any fun e => Region.binds md e && e.on == i
 | none => false
theorem lastWaits_spec {i : Nat} (h : lastWaits md ops L i = true) : ∃ oL, ops[L]? = some oL ∧ ∃ e ∈ oL.after, Region.binds md e = true ∧ e.on = i := by
 unfold lastWaits at h
 split at h
 ·rename_i o ho
  obtain ⟨e, he, hb⟩ := Array.any_eq_true'.1 h
  simp only [Bool.and_eq_true, beq_iff_eq] at hb
  exact ⟨o, ho, e, he, hb.1, hb.2⟩
 ·cases h
theorem wpG_take {i : Nat} {oi : Oper} {v : Value} {fuel : Nat} {listed : Array Bool} {a : Act} {w : World} (hi : ops[i]? = some oi)
  (hs : Region.noSelect ops = true) (hf : Region.free md ops listed i = true) (hr : (Region.ready md ops listed).contains i = true) (hl : lastWaits md ops L i = true)
  (hQ : ∀ c a w, Q (.panic c) (a.put oi.dst v) w → Q (.panic c) a w) (hy : YieldsIf P ops T oi v a) (hS : T w)
  (h : wpG P md ops Q T L fuel (listed.setIfInBounds i true) (a.put oi.dst v) w) : wpG P md ops Q T L (fuel + 1) listed a w := by
 obtain ⟨oL, hoL, hLi⟩ := lastWaits_spec hl
 exact wpG_first hi hoL hLi (Region.noSelect_spec hs) hQ fuel listed a w (Region.free_spec hi hf) (by simpa using hr) hy hS h
theorem tk (i : Nat) {oi : Oper} {v : Value} {fuel : Nat} {listed : Array Bool} {a : Act} {w : World} (hi : ops[i]? = some oi) (hy : YieldsIf P ops T oi v a) (hS : T w)
 (h : wpG P md ops Q T L fuel (listed.setIfInBounds i true) (a.put oi.dst v) w)
 (hs : Region.noSelect ops = true := by kernel_rfl) (hf : Region.free md ops listed i = true := by kernel_rfl) (hr : (Region.ready md ops listed).contains i = true := by kernel_rfl) (hl : lastWaits md ops L i = true := by kernel_rfl)
 (hQ : ∀ c a w, Q (.panic c) (a.put oi.dst v) w → Q (.panic c) a w := by exact fun _ _ _ h => h) : wpG P md ops Q T L (fuel + 1) listed a w := wpG_take hi hs hf hr hl hQ hy hS h
theorem wpG_one {i : Nat} {o : Oper} {fuel : Nat} {listed : Array Bool} {a : Act} {w : World} (hi : ops[i]? = some o) (hr : Region.ready md ops listed = [i])
  (h : ∀ K : Act → World → Prop, (∀ a w, (i = L ∨ T w) → wpG P md ops Q T L fuel (listed.setIfInBounds i true) a w → K a w) → if Region.wanted o (yielded ops a.tmps) = true then Oper.wp P o a w K Q else K (a.put o.dst undef) w) :
  wpG P md ops Q T L (fuel + 1) listed a w := by
 refine ⟨fun h0 => (by rw [hr] at h0; cases h0), fun j hj => ?_⟩
 rw [hr] at hj
 obtain rfl : j = i := by simpa using hj
 exact wpOp_step hi fun K hK => h K fun a w h1 h2 => hK a w ⟨h1, h2⟩
theorem o1 (i : Nat) {o : Oper} {fuel : Nat} {listed : Array Bool} {a : Act} {w : World} (hi : ops[i]? = some o)
 (h : ∀ K : Act → World → Prop, (∀ a w, (i = L ∨ T w) → wpG P md ops Q T L fuel (listed.setIfInBounds i true) a w → K a w) → if Region.wanted o (yielded ops a.tmps) = true then Oper.wp P o a w K Q else K (a.put o.dst undef) w)
 (hr : Region.ready md ops listed = [i] := by kernel_rfl) : wpG P md ops Q T L (fuel + 1) listed a w := wpG_one hi hr h
theorem wpG_done {listed : Array Bool} {a : Act} {w : World} (hr : Region.ready md ops listed = []) (h : Q .normal a w) : ∀ fuel, wpG P md ops Q T L fuel listed a w
 | 0 => ⟨hr, h⟩
 | _ + 1 => ⟨fun _ => h, by rw [hr]; simp⟩
theorem wp_region_G {id : Nat} {a : Act} {w : World} (T : World → Prop) (L : Nat) (hm : P.follows .mixedOrders = true)
  (h : wpG P .any ops Q T L ops.size (Array.replicate ops.size false) a w.drew) : (Code.region id ops true).wp P Q a w :=
 wp_region_any hm (wpAny_of_wpG _ _ _ _ h)
end
end
section -- WkB
open Go.RowKit
end
section -- WkC
open Go.RowKit
theorem mulB {x y : Int} {a b : Nat} (h1 : -(a : Int) ≤ x) (h2 : x ≤ a) (h3 : -(b : Int) ≤ y) (h4 : y ≤ b) : -((a * b : Nat) : Int) ≤ x * y ∧ x * y ≤ ((a * b : Nat) : Int) := by
 have h : (x * y).natAbs ≤ a * b := by rw [Int.natAbs_mul]; exact Nat.mul_le_mul (by omega) (by omega)
 omega
end
section -- WkD
open Go.RowKit
theorem i64_ok (n : Int) (h : -9223372036854775808 ≤ n ∧ n ≤ 9223372036854775807) : IntKind.i64.wrap n = n := IntWalk.i64_in n h
end
section -- WkE
open Go.RowKit
end
section -- WkF
open Go.RowKit
def cutA (A : Option Addr) (cap k sz : Nat) : Option Addr := if cap = k then A else A.map (·.add (k * sz))
theorem Rd.cutA' {w : World} {B sz n : Nat} {A : Option Addr} {xs : List Value} (h : Rd w B sz A n xs) {k m cap : Nat} (hk : k ≤ m) (hm : m ≤ n) (hc : n ≤ cap) :
  Rd w B sz (cutA A cap k sz) (m - k) ((xs.drop (k * sz)).take ((m - k) * sz)) := h.cut hk hm hc
end
section -- WkG
open Go.RowKit
theorem ownsRow_below {w w' : World} {base : Nat} {e : TypeId} {size : Nat} {v : Value} {n : Nat} {xs : List Value} {B : Nat} (h : w.ownsRow base e size v n xs) (hb : Below B w w') (hB : ∀ g, v.ownBlock = some g → g < B) : w'.ownsRow base e size v n xs := by
 refine ⟨h.1, ?_⟩
 rcases h.2 with hn | ⟨g, cap, cur, rfl, hbb, hgg, rest⟩
 ·exact .inl hn
 ·exact .inr ⟨g, cap, cur, rfl, hbb, (hb.block g (hB g rfl)).trans hgg, rest⟩
theorem own_mono {w : World} {base base' : Nat} {e : TypeId} {size : Nat} {v : Value} {n : Nat} {xs : List Value} (h : w.ownsRow base e size v n xs) (hb : base' ≤ base) : w.ownsRow base' e size v n xs := by
 refine ⟨h.1, ?_⟩
 rcases h.2 with hn | ⟨g, cap, cur, rfl, hbb, rest⟩
 ·exact .inl hn
 ·exact .inr ⟨g, cap, cur, rfl, by omega, rest⟩
theorem ownsRow_below' {w w' : World} {base : Nat} {e : TypeId} {size : Nat} {v : Value} {n : Nat} {xs : List Value} (h : w.ownsRow base e size v n xs) (hb : Below w.heap.size w w') : w'.ownsRow base e size v n xs :=
 ownsRow_below h hb fun g hg => (h.lt g hg).2
theorem Rd.blkN {w : World} {B g n sz : Nat} {t : TypeId} {cs : Array Value} (h : Blk w g t cs) (hn : cs.size = n * sz) (hg : g < B) : Rd w B sz (some ⟨g, 0, none⟩) n cs.toList :=
 ⟨by simpa using hn, fun _ => ⟨g, 0, rfl, hg, fun j u hu => by rw [Nat.zero_add, h.cell j]; simpa using hu⟩⟩
end
section -- WkH
open Go.RowKit
theorem own_slice {w : World} {base : Nat} {e : TypeId} {size : Nat} {v : Value} {n : Nat} {xs : List Value} (h : w.ownsRow base e size v n xs) : ∃ a c, v = .slice a n c := by
 rcases h.2 with ⟨h', rfl⟩ | ⟨g0, c0, cu, h', _⟩ <;> exact ⟨_, _, h'⟩
theorem own_ne {w : World} {b b' : Nat} {e e' : TypeId} {s s' : Nat} {v v' : Value} {n n' : Nat} {xs xs' : List Value} (h : w.ownsRow b e s v n xs) (h' : w.ownsRow b' e' s' v' n' xs') (hne : e ≠ e') : v.ownBlock = none ∨ v.ownBlock ≠ v'.ownBlock := by
 rcases h.2 with ⟨rfl, _⟩ | ⟨g, cap, cur, rfl, _, hh, _⟩
 ·exact .inl rfl
 ·rcases h'.2 with ⟨rfl, _⟩ | ⟨g', cap', cur', rfl, _, hh', _⟩
  ·exact .inr (by simp [Value.ownBlock])
  ·refine .inr (fun e0 => ?_)
   have : g = g' := by simpa [Value.ownBlock] using e0
   subst this
   rw [hh] at hh'
   injection hh' with hh'
   injection hh' with _ ht
   exact hne ht
end
section -- WkI
open Go.RowKit
end
section -- WkJ
open Go.RowKit
theorem below_iter (w : World) (s : ByteArray) (p : Nat) : Below w.heap.size w (w.iter s p) := (Below.refl _ w).alloc (Nat.le_refl _) _
end
section -- WkL
open Go.RowKit
end
section -- WkM
open Go.RowKit
end
section -- WkN
open Go.RowKit
end
section -- WkO
open Go.RowKit
end
section -- WkP
open Go.RowKit
end
section -- WkQ
open Go.RowKit
end
section -- WkS
open Go.RowKit
theorem blk2 (w : World) (o1 : Obj) (t : TypeId) (cs : Array Value) : Blk ((w.alloc o1).alloc (.cells cs t)) (w.heap.size + 1) t cs := by
 have := Blk.new (w.alloc o1) t cs
 simpa only [World.size_alloc] using this
end
section -- WkT
open Go.RowKit
end
section -- WkU
open Go.RowKit
end
section -- WkV
open Go.RowKit
end
section -- WkW
open Go.RowKit
end
section -- WkX
open Go.RowKit
end
section -- WkSh
open Go.RowKit
end
section -- WkBA
open Go.RowKit
end
section -- WkBB
open Go.RowKit
end
section -- WkBC
open Go.RowKit
end
section -- WkBD
open Go.RowKit
end
section -- WkBE
open Go.RowKit
theorem wpG_two {P : Program} {ops : Array Oper} {md : Region.Mode} {Q : Exit → Act → World → Prop} {T : World → Prop} {L : Nat} {i j : Nat} {oi oj : Oper} {fuel : Nat} {listed : Array Bool} {a : Act} {w : World} (hi : ops[i]? = some oi) (hj : ops[j]? = some oj) (hr : Region.ready md ops listed = [i, j])
  (h1 : ∀ K : Act → World → Prop, (∀ a w, (i = L ∨ T w) → wpG P md ops Q T L fuel (listed.setIfInBounds i true) a w → K a w) → if Region.wanted oi (yielded ops a.tmps) = true then Oper.wp P oi a w K Q else K (a.put oi.dst undef) w)
  (h2 : ∀ K : Act → World → Prop, (∀ a w, (j = L ∨ T w) → wpG P md ops Q T L fuel (listed.setIfInBounds j true) a w → K a w) → if Region.wanted oj (yielded ops a.tmps) = true then Oper.wp P oj a w K Q else K (a.put oj.dst undef) w) :
  wpG P md ops Q T L (fuel + 1) listed a w := by
 refine ⟨fun h0 => (by rw [hr] at h0; cases h0), fun k hk => ?_⟩
 rw [hr] at hk
 have hk2 : k = i ∨ k = j := by simpa using hk
 rcases hk2 with rfl | rfl
 ·exact wpOp_step hi fun K hK => h1 K fun a w x1 x2 => hK a w ⟨x1, x2⟩
 ·exact wpOp_step hj fun K hK => h2 K fun a w x1 x2 => hK a w ⟨x1, x2⟩
end
section -- WkAl
open Go.RowKit
section
variable {P : Program} {ops : Array Oper} {md : Region.Mode} {Q : Exit → Act → World → Prop} {T : World → Prop} {L : Nat}
theorem below_new (w : World) (o : Obj) : Below w.heap.size w (w.alloc o) := (Below.refl _ w).alloc (Nat.le_refl _) o
end
end
section -- WkMp
open Go.RowKit Go.Maps
end
section -- WkWd
open Go.RowKit Go.Maps
end
section -- WkMl
open Go.RowKit Go.Maps
end
section -- WkBs
open Go.RowKit
theorem run_slice_lo {P : Program} (t e : TypeId) (sz : Nat) (ht : P.underlying t = some (.slice e)) (hs : ∀ w, (sizeOf e).run P w = .ok sz w) (A : Option Addr) (n cap : Nat) (kl : IntKind) (l : Nat) (h1 : l ≤ n) (h2 : n ≤ cap) (w : World) :
  (Instr.slice t (.slice A n cap) (some (.int kl l)) none none).run P w = .ok (.slice (cutA A cap l sz) (n - l) (cap - l)) w := by
 have e2 : 0 ≤ (l : Int) ∧ (l : Int) ≤ (n : Int) := by omega
 simp [Instr.slice, run_underlying ht, Instr.sliceBounds, Instr.sliceBound, asIntOf, hs, cutA, h1, h2]
end
section -- WkTa
open Go.RowKit
end
section -- WkIn
open Go.RowKit
def noDefer (ops : Array Oper) : Bool := ops.all fun o => match o.op with | .defer _ => false | _ => true
theorem noDefer_spec {ops : Array Oper} (h : noDefer ops = true) {i : Nat} {o : Oper} (ho : ops[i]? = some o) : ∀ c, o.op ≠ .defer c := by
 intro c hc
 have h1 := Array.all_eq_true'.1 h o (Array.mem_of_getElem? ho)
 rw [hc] at h1
 cases h1
end
section -- WkRa
open Go.RowKit Go.Shelf
attribute [local go_sem] Oper.semAt_some
end
section -- WkRb
open Go.RowKit Go.Shelf
attribute [local go_sem] Oper.semAt_some
theorem Blk.kept_own {W W' : World} {g : Nat} {t e : TypeId} {cs : Array Value} {base size k : Nat} {v : Value} {xs : List Value} (h : Blk W g t cs) (hr : W.ownsRow base e size v k xs) (hne : e ≠ t) (hg : W.grownBy W' v.ownBlock) : Blk W' g t cs :=
 h.grown hg (fun e' => own_blk_ne hr h hne e'.symm)
end
section -- WkBF
open Go.RowKit
end
section -- WkBG
open Go.RowKit
end
section -- WkBH
open Go.RowKit
end
section -- WkWho
open Go.RowKit Go.Maps
end
section -- WkNx
open Go.RowKit Go.Maps
end
section -- WkMi
open Go.RowKit
end
section -- WkMk
open Go.RowKit
end
section -- WkTd
open Go.RowKit
end
section -- WkTo
open Go.RowKit
end
section -- WkSo
open Go.RowKit
end
section -- WkCp
open Go.RowKit Go.Sort Go.Lib
end
section -- WkDf
open Go.RowKit
end
section -- WkFe
open Go.RowKit
theorem own_pop {w : World} {base g m cap : Nat} {e : TypeId} {xs : List Value} {x : Value} (h : w.ownsRow base e 1 (.slice (some ⟨g, 0, none⟩) (m + 1) cap) (m + 1) (xs ++ [x])) : w.ownsRow base e 1 (.slice (some ⟨g, 0, none⟩) m cap) m xs := by
 have hl := h.1
 simp only [List.length_append, List.length_cons, List.length_nil] at hl
 rcases h.2 with ⟨h', _⟩ | ⟨g', cap', cur, h', hb, hg, hn, hm, hs, ht⟩
 ·cases h'
 ·injection h' with e1 _ e3
  injection e1 with e1
  injection e1 with e1
  subst e1; subst e3
  refine ⟨by omega, .inr ⟨g, cap, cur, rfl, hb, hg, by omega, hm, hs, ?_⟩⟩
  have h2 := congrArg (List.take m) ht
  rw [List.take_take, List.take_append_of_le_length (by omega), List.take_of_length_le (show xs.length ≤ m by omega)] at h2
  rw [← h2]; congr 1; omega
theorem run_slice_hi {P : Program} (t e : TypeId) (sz : Nat) (ht : P.underlying t = some (.slice e)) (hs : ∀ w, (sizeOf e).run P w = .ok sz w) (g n cap : Nat) (kl : IntKind) (h : Nat) (h2 : h ≤ cap) (h3 : 0 < cap) (w : World) :
  (Instr.slice t (.slice (some ⟨g, 0, none⟩) n cap) none (some (.int kl h)) none).run P w = .ok (.slice (some ⟨g, 0, none⟩) h cap) w := by
 have e2 : 0 ≤ (h : Int) ∧ (h : Int) ≤ (cap : Int) := by omega
 have e3 : ¬ cap = 0 := by omega
 simp [Instr.slice, run_underlying ht, Instr.sliceBounds, Instr.sliceBound, asIntOf, hs, h2, e3, Addr.add]
end
section -- WkFn
open Go.RowKit
end
section -- WkPl
open Go.RowKit Go.Maps
theorem own_le0 {w : World} {base n cap N : Nat} {e : TypeId} {A : Option Addr} {xs : List Value} (h : w.ownsRow base e N (.slice A n cap) n xs) : n ≤ cap := by
 rcases h.2 with ⟨h1, _⟩ | ⟨g, c, cur, h1, h2⟩
 ·cases h1; omega
 ·cases h1; exact h2.2.2.1
theorem own_cap {w : World} {base n cap N : Nat} {e : TypeId} {A : Option Addr} {xs : List Value} (h : w.ownsRow base e N (.slice A n cap) n xs) : cap ≤ maxLen := by
 rcases h.2 with ⟨h1, _⟩ | ⟨g, c, cur, h1, h2⟩
 ·cases h1; unfold maxLen; omega
 ·cases h1; exact h2.2.2.2.1
end
section -- WkTx
open Go.RowKit
def sumB (i : Int) : List UInt8 → Int → Int → Int
 | [], _, acc => acc
 | c :: cs, p, acc => sumB i cs (p + 1) (wrap64 (acc + wrap64 (wrap64 (wrap64 (c.toNat : Int) * (p + 1)) * (i + 1))))
def sumA : List ByteArray → Int → Int → Int
 | [], _, acc => acc
 | r :: rs, i, acc => sumA rs (i + 1) (sumB i r.data.toList 0 acc)
theorem sumB_drop (i : Int) (l : List UInt8) (k : Nat) (acc : Int) (h : k < l.length) : sumB i (l.drop k) k acc = sumB i (l.drop (k + 1)) ((k : Int) + 1) (wrap64 (acc + wrap64 (wrap64 (wrap64 (l[k].toNat : Int) * ((k : Int) + 1)) * (i + 1)))) := by
 rw [List.drop_eq_getElem_cons h, sumB]
theorem sumA_drop (l : List ByteArray) (k : Nat) (acc : Int) (h : k < l.length) : sumA (l.drop k) k acc = sumA (l.drop (k + 1)) ((k : Int) + 1) (sumB k l[k].data.toList 0 acc) := by
 rw [List.drop_eq_getElem_cons h, sumA]
end
section -- WkSe
open Go.RowKit
def rowS (D : Int → ByteArray) : List Int → ByteArray → ByteArray
 | [], s => s
 | n :: ns, s => rowS D ns (s ++ ⟨#[32]⟩ ++ D n)
theorem rowS_drop (D : Int → ByteArray) (l : List Int) (k : Nat) (s : ByteArray) (h : k < l.length) : rowS D (l.drop k) s = rowS D (l.drop (k + 1)) (s ++ ⟨#[32]⟩ ++ D l[k]) := by
 rw [List.drop_eq_getElem_cons h, rowS]
end
section -- WkSd
open Go.RowKit
theorem strNum_size (n : Int) : (strOfNums [n]).size = 1 := rfl
def linesS : List ByteArray → ByteArray → ByteArray
 | [], s => s
 | r :: rs, s => linesS rs (s ++ r ++ ⟨#[10]⟩)
theorem linesS_drop (l : List ByteArray) (k : Nat) (s : ByteArray) (h : k < l.length) : linesS (l.drop k) s = linesS (l.drop (k + 1)) (s ++ l[k] ++ ⟨#[10]⟩) := by
 rw [List.drop_eq_getElem_cons h, linesS]
end
section -- WkPr
open Go.RowKit
end
section -- WkSn
open Go.RowKit
end
section -- WkPa
open Go.RowKit Go.Lib
end
section -- WkPd
open Go.RowKit Go.Lib
end
section -- WkPe
open Go.RowKit Go.Lib
end
section -- WkPf
open Go.RowKit Go.Lib
end
section -- WkKv
open Go.RowKit Go.Lib
end
section -- WkKn
open Go.RowKit Go.Lib
end
section -- WkLa
open Go.RowKit
end
section -- WkLb
open Go.RowKit
end
section -- WkLc
open Go.RowKit
end
section -- WkBk
open Go.RowKit
theorem rdB {w w' : World} {sz n : Nat} {A : Option Addr} {xs : List Value} (h : Rd w w.heap.size sz A n xs) (hB : Below w.heap.size w w') : Rd w' w'.heap.size sz A n xs := (h.below hB).more hB.size
theorem blk2_0 (w : World) (o1 : Obj) (t : TypeId) (cs : Array Value) : Blk ((w.alloc (.cells cs t)).alloc o1) (w.heap.size) t cs := by
 have := (Blk.new (w) t cs).alloc o1
 simpa only [World.size_alloc] using this
theorem blk2_1 (w : World) (o0 : Obj) (t : TypeId) (cs : Array Value) : Blk ((w.alloc o0).alloc (.cells cs t)) (w.heap.size + 1) t cs := by
 have := Blk.new (w.alloc o0) t cs
 simpa only [World.size_alloc] using this
end
section -- WkAs
open Go.RowKit
end
section -- WkAn
open Go.RowKit
end
section -- WkOc
open Go.RowKit
end
section -- WkHd
open Go.RowKit
end
section -- WkAo
open Go.RowKit
end
section -- WkOa
open Go.RowKit
end
section -- WkBl
open Go.RowKit
end
section -- WkSq
open Go.RowKit
end
section -- WkSa
open Go.RowKit
end
section -- WkSb
open Go.RowKit
end
section -- WkSc
open Go.RowKit
end
section -- WkSj
open Go.RowKit
end
section -- WkSk
open Go.RowKit
end
section -- WkSm
open Go.RowKit Go.Lib Go.Sort
end
section -- WkSn2
open Go.RowKit
end
section -- WkSw
open Go.RowKit
end
section -- WkEa
open Go.RowKit
end
section -- WkEn
open Go.RowKit
end
section -- WkEk
open Go.RowKit
end
section -- WkEl
open Go.RowKit
end
section -- WkEm
open Go.RowKit
end
section -- WkFj
open Go.RowKit
end
section -- WkFitA
open Go.RowKit
end
section -- WkJm
open Go.RowKit
end
section -- WkJo
open Go.RowKit
end
section -- WkJr
open Go.RowKit
end
section -- WkTs
open Go.RowKit
end
section -- WkLz
open Go.RowKit
end
section -- WkMy
open Go.RowKit
section
variable {fi : Nat → Int} {ag : Nat → Nat → Bool} {N i k : Nat} {one two : Int}
end
end
section -- WkMw
open Go.RowKit
end
section -- WkMz
open Go.RowKit
end
section -- WkRw
open Go.RowKit
end
section -- WkR2
open Go.RowKit
section
variable {P : Program} {ops : Array Oper} {md : Region.Mode} {Q : Exit → Act → World → Prop} {T : World → Prop} {L : Nat}
theorem wpG_first2 {i : Nat} {oi : Oper} {v : Value} (hi : ops[i]? = some oi) (hoL : ops[L]? = none) (hsel : ∀ (j : Nat) (o : Oper) cs b, ops[j]? = some o → o.op ≠ .select cs b)
  (hQ : ∀ c a w, Q (.panic c) (a.put oi.dst v) w → Q (.panic c) a w) :
  ∀ (fuel : Nat) (listed : Array Bool) (a : Act) (w : World),
   (∀ j oj, ops[j]? = some oj → j ≠ i → listed.getD j true = false → (∀ e ∈ oj.after, Region.binds md e = true → e.on ≠ i) → oi.apart ops oj = true) →
   i ∈ Region.ready md ops listed → YieldsIf P ops T oi v a → T w →
   wpG P md ops Q T L fuel (listed.setIfInBounds i true) (a.put oi.dst v) w → wpG P md ops Q T L (fuel + 1) listed a w := by
 intro fuel
 induction fuel with
 | zero =>
  intro listed a w _ hr hy hS H
  refine ⟨fun h => (by rw [h] at hr; cases hr), fun j hj => ?_⟩
  by_cases hji : j = i
  ·subst hji; exact hy.wpOp hi hS ⟨.inr hS, H⟩
  ·have := ready_mono hj hji
   rw [H.1] at this
   cases this
 | succ fuel ih =>
  intro listed a w hfree hr hy hS H
  refine ⟨fun h => (by rw [h] at hr; cases hr), fun j hj => ?_⟩
  by_cases hji : j = i
  ·subst hji; exact hy.wpOp hi hS ⟨.inr hS, H⟩
  ·have h1 := H.2 j (ready_mono hj hji)
   obtain ⟨hjun, oj, hoj, hall⟩ := mem_ready.1 hj
   have hnot : ∀ e ∈ oj.after, Region.binds md e = true → e.on ≠ i := fun e he hb heq => by
    have h1 := hall e he hb
    have h0 := (mem_ready.1 hr).1
    rw [heq] at h1
    rcases Nat.lt_or_ge i listed.size with h' | h'
    ·simp [h'] at h0 h1; rw [h0] at h1; cases h1
    ·simp [Array.getElem?_eq_none h'] at h1
   have hjL : j ≠ L := fun e => by
    subst e
    rw [hoj] at hoL; cases hoL
   have h2 := wpOp_putIf hoj (hfree j oj hoj hji hjun hnot) (fun cs b => hsel i oi cs b hi) (fun cs b => hsel j oj cs b hoj) hQ hy h1
   have hfree' : ∀ k ok, ops[k]? = some ok → k ≠ i → (listed.setIfInBounds j true).getD k true = false →
     (∀ e ∈ ok.after, Region.binds md e = true → e.on ≠ i) → oi.apart ops ok = true := fun k ok hk hki hun hno => by
    refine hfree k ok hk hki ?_ hno
    by_cases hjk : j = k
    ·subst hjk; exact hjun
    ·rw [getD_set_ne true hjk] at hun; exact hun
   refine wpOp_mono (fun a' w' h3 => ?_) h2
   have hT : T w' := h3.2.1.resolve_left hjL
   refine ⟨.inr hT, ih (listed.setIfInBounds j true) a' w' hfree' (ready_mono hr (Ne.symm hji)) h3.1 hT ?_⟩
   rw [Array.setIfInBounds_comm _ _ hji]
   exact h3.2.2
theorem wpG_take2 {i : Nat} {oi : Oper} {v : Value} {fuel : Nat} {listed : Array Bool} {a : Act} {w : World} (hi : ops[i]? = some oi)
  (hs : Region.noSelect ops = true) (hf : Region.free md ops listed i = true) (hr : (Region.ready md ops listed).contains i = true) (hoL : ops[L]? = none)
  (hQ : ∀ c a w, Q (.panic c) (a.put oi.dst v) w → Q (.panic c) a w) (hy : YieldsIf P ops T oi v a) (hS : T w)
  (h : wpG P md ops Q T L fuel (listed.setIfInBounds i true) (a.put oi.dst v) w) : wpG P md ops Q T L (fuel + 1) listed a w := by
 exact wpG_first2 hi hoL (Region.noSelect_spec hs) hQ fuel listed a w (Region.free_spec hi hf) (by simpa using hr) hy hS h
theorem tk2 (i : Nat) {oi : Oper} {v : Value} {fuel : Nat} {listed : Array Bool} {a : Act} {w : World} (hi : ops[i]? = some oi) (hoL : ops[L]? = none) (hy : YieldsIf P ops T oi v a) (hS : T w)
 (h : wpG P md ops Q T L fuel (listed.setIfInBounds i true) (a.put oi.dst v) w)
 (hs : Region.noSelect ops = true := by kernel_rfl) (hf : Region.free md ops listed i = true := by kernel_rfl) (hr : (Region.ready md ops listed).contains i = true := by kernel_rfl)
 (hQ : ∀ c a w, Q (.panic c) (a.put oi.dst v) w → Q (.panic c) a w := by exact fun _ _ _ h => h) : wpG P md ops Q T L (fuel + 1) listed a w := wpG_take2 hi hs hf hr hoL hQ hy hS h
end
end
section -- WkRv
open Go.RowKit
end
section -- WkNy
open Go.RowKit
end
section -- WkOb
open Go.RowKit
end
section -- WkOp
open Go.ChangeShapes Go.WideShapes Go.ChangeAt Go.RowKit Go.Deep
section
variable {H : Type} {enc : TypeId × Value → H} {P : Program} {w : World} {base : Nat} {spare : Nat → Bool} {held : Bool} {r : Reach} {b0 : Nat} {v : Value} {d : DataW H} {p : List MemPlace}
def RowsOk (P : Program) (ts : List TypeId) : Prop := ∀ t ∈ ts, P.readableRec t = true ∧ t < P.types.size
theorem below_all {W W' : World} (hl : laidOutB P = true) (hb : Below W.heap.size W W') : ∀ {ts : List TypeId} {vs : List Value} {ds : List (DataW H)} {ps : List MemPlace}, RowsOk P ts → DataW.TrodAll enc P W 0 (fun _ => true) true ts vs ds ps → (∀ x ∈ ps, x.block < W.heap.size) → DataW.TrodAll enc P W' 0 (fun b => decide (b < W.heap.size)) true ts vs ds ps
 | [], vs, ds, ps, _, h, _ => by
  obtain ⟨rfl, rfl, rfl⟩ := trodAll_nil h
  exact h
 | t :: ts, vs, ds, ps, ho, h, hlt => by
  obtain ⟨v, vs', d, ds', p, q, rfl, rfl, rfl, hd, hrest⟩ := trodAll_cons h
  have h1 := Below.trod hl (ho t (by simp)).1 (ho t (by simp)).2 hd hb (fun x hx => hlt x (List.mem_append.2 (.inl hx)))
  have h2 := below_all hl hb (ts := ts) (fun u hu => ho u (by simp [hu])) hrest (fun x hx => hlt x (List.mem_append.2 (.inr hx)))
  exact trodAll_cons_mk h1 h2
end
end
section -- WkOq
open Go.ChangeShapes Go.WideShapes Go.ChangeAt Go.RowKit Go.Deep
section
variable {H : Type} {enc : TypeId × Value → H} {P : Program} {w : World} {base : Nat} {spare : Nat → Bool} {held : Bool} {r : Reach} {b0 : Nat} {v : Value} {d : DataW H} {p : List MemPlace}
def AllInt (enc : TypeId × Value → H) (P : Program) (w : World) (base : Nat) (spare : Nat → Bool) (held : Bool) (t : TypeId) (k : Nat) : Prop :=
 P.cellsOf t = k ∧ ∀ (n : Nat) (cs : List Value) (y : Option (DataW H × List MemPlace)), y.isSome = true → DataW.trod enc P w base spare held n t cs = y → ∃ ns : List Int, ns.length = k ∧ cs = ns.map (Value.int .i64)
theorem allInt_int {t : TypeId} (h3 : P.underlying t = some (.int .i64)) (hc : P.cellsOf t = 1) : AllInt enc P w base spare held t 1 := by
 refine ⟨hc, fun n cs y hy h => ?_⟩
 obtain ⟨y', rfl⟩ := Option.isSome_iff_exists.1 hy
 obtain ⟨k, hk, _⟩ := DataW.trod_int h3 h
 exact ⟨[k], rfl, by simpa using hk⟩
def rowC (k : Nat) (g : Nat → Int) : List Value := (List.range k).map fun j => Value.int .i64 (g j)
theorem rowC_len (k : Nat) (g : Nat → Int) : (rowC k g).length = k := by simp [rowC]
def IntsIn (w : World) (k : Nat) (c : Value) : Prop := ∃ (A : Option Addr) (n cap : Nat) (gs : List (Nat → Int)), c = .slice A n cap ∧ n ≤ cap ∧ cap ≤ maxLen ∧ Rd w w.heap.size k A n (gs.flatMap (rowC k))
end
end
section -- WkOz
open Go.RowKit
end
section -- WkRu
open Go.RowKit
end
section -- WkRt
open Go.RowKit
end
section -- WkRx
open Go.RowKit
end
section -- WkSx
open Go.RowKit
end
section -- WkSy
open Go.RowKit
end
section -- WkSz
open Go.RowKit
end
section -- WkV1
open Go.RowKit Go.Lib
theorem var_below {P : Program} {w w' : World} {name : String} {xs : Array Value} (h : w.var? P name = some xs) (hb : Below w.heap.size w w') : w'.var? P name = some xs := by
 unfold World.var? at h ⊢
 cases hg : P.globalNamed name with
 | none => rw [hg] at h; cases h
 | some g =>
  rw [hg] at h
  simp only [Option.bind_some] at h ⊢
  have hlt : g < w.heap.size := by
   rcases Nat.lt_or_ge g w.heap.size with h1 | h1
   ·exact h1
   ·rw [Array.getElem?_eq_none h1] at h; cases h
  rw [hb.block g hlt]
  exact h
theorem below_ahead (w : World) (k : Nat) (os : Array Obj) : Below w.heap.size w (Sort.grow (w.drewN k) os) :=
 ⟨rfl, rfl, rfl, by simp [Sort.grow, World.drewN], fun k hk => by simp only [Sort.grow, World.drewN]; exact Array.getElem?_append_left hk⟩
def dgt (v : Nat) : UInt8 := UInt8.ofNat (48 + v)
def dgt3 (v : Nat) : ByteArray := ⟨#[dgt (v / 100), dgt (v / 10 % 10), dgt (v % 10)]⟩
theorem dec_three {i : Nat} (h1 : 100 ≤ i) (h2 : i < 1000) : decDigits i = [UInt8.ofNat (48 + i / 100), UInt8.ofNat (48 + i / 10 % 10), UInt8.ofNat (48 + i % 10)] := by
 rw [decDigits, dif_neg (by omega), decDigits_two (by omega) (by omega)]
 have e1 : i / 10 / 10 = i / 100 := by omega
 rw [e1]
 rfl
theorem ba_cons {a b : Array UInt8} : (⟨a⟩ : ByteArray) ++ ⟨b⟩ = ⟨a ++ b⟩ := by apply ByteArray.ext; simp
end
section -- WkV2
open Go.RowKit Go.Lib
def dS (a : Nat) : ByteArray := ⟨(decDigits a).toArray⟩
def jnS (xs : List ByteArray) (sep : ByteArray) : ByteArray := ⟨(join (xs.map (·.data.toList)) sep.data.toList).toArray⟩
theorem joinTail_len (sep : List UInt8) (M : Nat) : ∀ r : List (List UInt8), (∀ x ∈ r, x.length ≤ M) → (joinTail sep r).length ≤ r.length * (M + sep.length)
 | [], _ => by simp [joinTail]
 | x :: r, h => by
  have ih := joinTail_len sep M r (fun y hy => h y (by simp [hy]))
  have hx := h x (by simp)
  have e : joinTail sep (x :: r) = sep ++ x ++ joinTail sep r := by simp [joinTail]
  rw [e, List.length_append, List.length_append, List.length_cons, Nat.add_mul]
  omega
theorem join_len (sep : List UInt8) (M : Nat) (r : List (List UInt8)) (h : ∀ x ∈ r, x.length ≤ M) : (join r sep).length ≤ r.length * (M + sep.length) := by
 cases r with
 | nil => simp [join_nil]
 | cons x r =>
  rw [join_cons, List.length_append, List.length_cons, Nat.add_mul]
  have h1 := joinTail_len sep M r (fun y hy => h y (by simp [hy]))
  have h2 := h x (by simp)
  omega
theorem size_list (b : ByteArray) : b.data.toList.length = b.size := by cases b; rfl
end
section -- WkV3
open Go.RowKit Go.Lib
def wEnd : ByteArray := ⟨#[101, 110, 100]⟩
def lineS (wd : ByteArray) (ws : List ByteArray) : ByteArray := wd ++ ⟨#[32]⟩ ++ jnS ws ⟨#[32]⟩
theorem size_app (a b : ByteArray) : (a ++ b).size = a.size + b.size := ByteArray.size_append
theorem dS_size (a : Nat) (ha : a < 1000) : (dS a).size ≤ 3 := by
 have h : (decDigits a).length ≤ 3 := by
  rcases (show a < 10 ∨ (¬ a < 10 ∧ a < 100) ∨ 100 ≤ a by omega) with h1 | ⟨h1, h2⟩ | h1
  ·rw [decDigits_one h1]; exact (by decide : 1 ≤ 3)
  ·rw [decDigits_two h1 h2]; exact Nat.le_succ _
  ·rw [dec_three h1 ha]; exact Nat.le_refl _
 show (List.toArray (decDigits a)).size ≤ 3
 rw [List.size_toArray]; exact h
end
section -- WkV4
open Go.RowKit Go.Lib
end
section -- WkV5
open Go.RowKit Go.Lib
def putHead (b : UInt8) : List (List UInt8) → List (List UInt8)
 | [] => [[b]]
 | x :: xs => (b :: x) :: xs
def cutL (c : UInt8) : List UInt8 → List (List UInt8)
 | [] => [[]]
 | b :: l => if b = c then [] :: cutL c l else putHead b (cutL c l)
theorem cutL_ne (c : UInt8) : ∀ l, cutL c l ≠ []
 | [] => by simp [cutL]
 | b :: l => by
  rw [cutL]
  split
  ·simp
  ·cases h : cutL c l <;> simp [putHead]
theorem splitK_cut (c : UInt8) : ∀ l : List UInt8, splitK [c] 0 (count l [c]) l = cutL c l
 | [] => by rw [count_miss (by simp [index])]; rfl
 | b :: l => by
  have ih := splitK_cut c l
  by_cases h : b = c
  ·subst h
   have hix : index (b :: l) [b] = ((0 : Nat) : Int) := by rw [index]; simp [List.isPrefixOf]
   rw [count_cons_eq, Nat.add_comm, splitK, hix, cutL, if_pos rfl, ← ih]
   rfl
  ·rw [count_cons_ne b c l h, cutL, if_neg h, ← ih]
   have hp : ([c] : List UInt8).isPrefixOf (b :: l) = false := by simp [List.isPrefixOf, Ne.symm h]
   have hix : index (b :: l) [c] = if index l [c] == -1 then -1 else index l [c] + 1 := by rw [index, hp]; simp
   cases hk : count l [c] with
   | zero => rfl
   | succ k =>
    have hne : index l [c] ≠ -1 := fun e => by rw [count_miss e] at hk; cases hk
    have hge := index_ge l [c]
    obtain ⟨j, hj⟩ : ∃ j : Nat, index l [c] = j := ⟨(index l [c]).toNat, by omega⟩
    have hix' : index (b :: l) [c] = (j : Int) + 1 := by rw [hix, if_neg (by simpa using hne), hj]
    have n1 : ¬ (((j : Int) + 1 == -1) = true) := fun e => by have := beq_iff_eq.1 e; omega
    have n2 : ¬ (((j : Int) == -1) = true) := fun e => by have := beq_iff_eq.1 e; omega
    rw [splitK, splitK, hix', hj, if_neg n1, if_neg n2]
    have e1 : ((j : Int) + 1).toNat + 0 = j + 1 := by omega
    have e2 : ((j : Int)).toNat + 0 = j := by omega
    have e3 : ((j : Int) + 1).toNat + ([c] : List UInt8).length = j + 1 + 1 := by simp
    have e4 : ((j : Int)).toNat + ([c] : List UInt8).length = j + 1 := by simp
    rw [e1, e2, e3, e4]
    rfl
theorem splitB_cut (c : UInt8) (s : ByteArray) : (splitB ⟨#[c]⟩ 0 (countB s ⟨#[c]⟩) s).map (·.data.toList) = cutL c s.data.toList := by
 rw [splitB_data]
 exact splitK_cut c s.data.toList
theorem ba_list {a b : ByteArray} (h : a.data.toList = b.data.toList) : a = b := by
 apply ByteArray.ext
 exact Array.ext' h
theorem countB_split (c : UInt8) (s : ByteArray) : (splitB ⟨#[c]⟩ 0 (countB s ⟨#[c]⟩) s).length = countB s ⟨#[c]⟩ + 1 := splitB_all ⟨#[c]⟩ (Nat.le_refl 1) 0 _ s rfl
theorem jnS_snoc (xs : List ByteArray) (y sep : ByteArray) (h : xs ≠ []) : jnS xs sep ++ sep ++ y = jnS (xs ++ [y]) sep := by
 apply ba_list
 cases xs with
 | nil => exact absurd rfl h
 | cons x r =>
  show (jnS (x :: r) sep ++ sep ++ y).data.toList = (join (((x :: r) ++ [y]).map (·.data.toList)) sep.data.toList).toArray.toList
  have e : (jnS (x :: r) sep).data.toList = join ((x :: r).map (·.data.toList)) sep.data.toList := rfl
  rw [ByteArray.data_append, ByteArray.data_append, Array.toList_append, Array.toList_append, e]
  simp only [List.map_cons, List.cons_append, List.map_append, List.map_nil, join_cons, joinTail, List.map_append, List.flatten_append, List.flatten_cons, List.flatten_nil, List.append_nil]
  simp
end
section -- WkV7
open Go.RowKit Go.Lib
theorem Rd_init {w : World} {g B : Nat} {t : TypeId} {xs : List ByteArray} {y : ByteArray} (h : Blk w g t ((xs ++ [y]).map Value.string).toArray) (hg : g < B) : Rd w B 1 (some ⟨g, 0, none⟩) xs.length (xs.map Value.string) := by
 refine ⟨by simp, fun _ => ⟨g, 0, rfl, hg, fun j u hu => ?_⟩⟩
 rw [Nat.zero_add, h.cell j]
 obtain ⟨hj, _⟩ := List.getElem?_eq_some_iff.1 hu
 rw [List.length_map] at hj
 have e : (((xs ++ [y]).map Value.string).toArray)[j]? = (xs.map Value.string)[j]? := by
  rw [List.getElem?_toArray, List.map_append, List.getElem?_append_left (by rw [List.length_map]; exact hj)]
 rw [e]; exact hu
end
section -- WkV8
open Go.RowKit Go.Lib
theorem nums_dgt (d : Nat) (hd : d < 10) : strOfNums [48 + (d : Int)] = ⟨#[dgt d]⟩ := by
 have e : (48 + (d : Int)) = ((48 + d : Nat) : Int) := by omega
 rw [e]; rfl
end
section -- WkV9
open Go.RowKit Go.Lib
end
section -- WkVc
open Go.RowKit Go.Lib
theorem jnS_list (xs : List ByteArray) (sep : ByteArray) : (jnS xs sep).data.toList = join (xs.map (·.data.toList)) sep.data.toList := rfl
end
section -- WkVd
open Go.RowKit Go.Lib
theorem w64 (n : Int) (h : -9223372036854775808 ≤ n ∧ n ≤ 9223372036854775807) : wrap64 n = n := by unfold wrap64; omega
theorem sumB_ok (i : Int) (hi0 : 0 ≤ i) (hi : i ≤ 1000) : ∀ (l : List UInt8) (p acc : Int), 0 ≤ p → p + l.length ≤ 1000 → 0 ≤ acc → acc + l.length * 300000000 ≤ 4000000000000000000 → 0 ≤ sumB i l p acc ∧ sumB i l p acc ≤ acc + l.length * 300000000
 | [], _, acc, _, _, h, _ => by simp [sumB]; exact h
 | c :: l, p, acc, hp, hl, h0, h1 => by
  rw [List.length_cons] at hl h1
  have hc : (c.toNat : Int) ≤ 255 := by have := c.toNat_lt; omega
  obtain ⟨_, m1⟩ := mulB (x := (c.toNat : Int)) (y := p + 1) (a := 255) (b := 1000) (by omega) (by omega) (by omega) (by omega)
  have m0 : 0 ≤ (c.toNat : Int) * (p + 1) := Int.mul_nonneg (by omega) (by omega)
  obtain ⟨x, hx⟩ : ∃ x, x = (c.toNat : Int) * (p + 1) := ⟨_, rfl⟩
  rw [← hx] at m0 m1
  obtain ⟨_, n1⟩ := mulB (x := x) (y := i + 1) (a := 255000) (b := 1001) (by omega) (by omega) (by omega) (by omega)
  have n0 : 0 ≤ x * (i + 1) := Int.mul_nonneg m0 (by omega)
  have e : sumB i (c :: l) p acc = sumB i l (p + 1) (acc + x * (i + 1)) := by
   rw [sumB, w64 (c.toNat : Int) (by omega), ← hx, w64 x (by omega), w64 (x * (i + 1)) (by omega), w64 (acc + x * (i + 1)) (by omega)]
  rw [e]
  obtain ⟨y, hy⟩ : ∃ y, y = x * (i + 1) := ⟨_, rfl⟩
  rw [← hy] at n0 n1 ⊢
  obtain ⟨r1, r2⟩ := sumB_ok i hi0 hi l (p + 1) (acc + y) (by omega) (by omega) (by omega) (by omega)
  rw [List.length_cons]
  exact ⟨r1, by omega⟩
theorem sumA_ok : ∀ (rs : List ByteArray) (i acc : Int), 0 ≤ i → i + rs.length ≤ 1000 → (∀ r ∈ rs, r.size ≤ 900) → 0 ≤ acc → acc + rs.length * 300000000000 ≤ 4000000000000000000 → 0 ≤ sumA rs i acc
 | [], _, acc, _, _, _, h, _ => by simpa [sumA] using h
 | r :: rs, i, acc, hi, hl, hs, h0, h1 => by
  rw [List.length_cons] at hl h1
  have hr := hs r (by simp)
  have hrl : r.data.toList.length ≤ 900 := by rw [size_list]; exact hr
  obtain ⟨b1, b2⟩ := sumB_ok i hi (by omega) r.data.toList 0 acc (by omega) (by omega) h0 (by omega)
  rw [sumA]
  exact sumA_ok rs (i + 1) _ (by omega) (by omega) (fun x hx => hs x (by simp [hx])) b1 (by omega)
theorem rowS_jn (D : Int → ByteArray) : ∀ (l : List Int) (s : ByteArray), rowS D l s = jnS (s :: l.map D) ⟨#[32]⟩
 | [], s => by apply ba_list; rw [jnS_list, List.map_nil, List.map_cons, List.map_nil, join_one]; rfl
 | r :: l, s => by
  rw [rowS, rowS_jn D l]
  apply ba_list
  rw [jnS_list, jnS_list, List.map_cons, List.map_cons, List.map_cons, List.map_cons, join_cons, join_cons]
  rw [ByteArray.data_append, ByteArray.data_append, Array.toList_append, Array.toList_append]
  simp [joinTail]
theorem linesS_jn : ∀ (l : List ByteArray) (s : ByteArray), l ≠ [] → linesS l s = s ++ jnS l ⟨#[10]⟩ ++ ⟨#[10]⟩
 | [], _, h => absurd rfl h
 | [x], s, _ => by
  rw [linesS, linesS]
  apply ba_list
  simp only [ByteArray.data_append, Array.toList_append, jnS_list, List.map_cons, List.map_nil, join_one]
 | x :: y :: l, s, _ => by
  rw [linesS, linesS_jn (y :: l) _ (by simp)]
  apply ba_list
  simp only [ByteArray.data_append, Array.toList_append, jnS_list, List.map_cons, join_cons]
  simp [joinTail]
def DZ (x : Int) : ByteArray := dS x.toNat
end
section -- WkVg
open Go.RowKit Go.Lib
end
section -- WkVh
open Go.ChangeShapes Go.WideShapes Go.ChangeAt Go.RowKit Go.Deep Go.Lib
theorem laid_tail {P : Program} {W : World} {a : String × DataW Unit} {l : List (String × DataW Unit)} (h : laidMet P (a :: l) W) : laidMet P l W := by
 obtain ⟨n, d⟩ := a
 obtain ⟨ps, hl, hnd, hrows⟩ := h
 obtain ⟨g, t, cs, fuel, p, q, _, _, _, _, hr, rfl⟩ := hl
 exact ⟨q, hr, hnd.sublist (List.sublist_append_right _ _), fun b off hp => hrows b off (List.mem_append_right _ hp)⟩
theorem law_lifted_laid {C : Checked} {f : FuncId} {fn : Func} {s : ChangeSpec} {laid : List (String × DataW Unit)} {tb : TypeId} {os : Os} (started : os.Started) {H : Type} {enc : TypeId × Value → H}
  (own : ownKnob C.prog.godebug = none) (noInit : C.prog.inits.idxOf? f = none) (hfn : C.prog.funcs[f]? = some fn) (hl : laidOutB C.prog = true) (hrows : RowsOk C.prog fn.params.toList)
  (hvars : s.vars = []) (hbool : C.prog.underlying tb = some .bool) (hres : fn.resultTypes = #[tb])
  (hspec : ∀ ds : List (DataW H), ds.length = fn.params.size → s.fn H ds = { results := [.lit (.bool true)], args := ds })
  (witness : ∃ (w : World) (tape : Tape) (i : Input), w.os = os ∧ (w.forCall tape i).Shaped C.prog ∧ i.vars = [] ∧ Input.okWide C.prog (w.forCall tape i) .any w.heap.size f i ∧
    ((s.pre enc C.prog fn [] false (w.forCall tape i).memory i.args ∧ laidMetH C.prog laid (w.forCall tape i).memory) ∧ sizedMet enc C.prog fn (OpenSpec.ofChange s) false (w.forCall tape i).memory i.args) ∧ ({} : Assume).holds C.prog (lone (Frame.enter C.prog f i.args .normal) [] (w.forCall tape i)))
  (contract : ∀ (W : World) (base : Nat) (args : Array Value) (ds : List (DataW H)) (p : List MemPlace), (∀ (j : Nat) t v, fn.params[j]? = some t → args[j]? = some v → Value.okWide C.prog W .any base t v) →
    DataW.TrodAll enc C.prog W 0 (fun _ => true) true fn.params.toList args.toList ds p → W.ShapedOpen C.prog → (∃ W0 : World, W0.heap = W.heap ∧ laidMetH C.prog laid W0) → Calls C.prog f args W fun e W' => e = .returned (.bool true) ∧ Below W.heap.size W W') :
  ReturnsInHanded {} C os f .any (fun w args => (s.pre enc C.prog fn [] false w args ∧ laidMetH C.prog laid w) ∧ sizedMet enc C.prog fn (OpenSpec.ofChange s) false w args) (s.post enc C.prog fn false true false false) := by
 refine returnsInHanded_of_calls own started noInit witness ?_
 intro w tape i _ hsh _ hok hpre _
 obtain ⟨_, _, _, fn', hfn', _, _, _, _, hval⟩ := hok
 obtain rfl : fn' = fn := Option.some.inj (hfn'.symm.trans hfn)
 obtain ⟨⟨⟨ds, gs, before, hw, _⟩, hlaid⟩, _⟩ := hpre
 have hw' := DataW.Whole.of_heap (w' := w.forCall tape i) (by rfl) hw
 have hW := hw'
 obtain ⟨p, q, hA, hV, hbef, _, _⟩ := hw'
 rw [hvars] at hV
 obtain ⟨rfl, rfl⟩ := trodVars_none hV
 refine (contract (w.forCall tape i) w.heap.size i.args ds p hval hA hsh ⟨(w.forCall tape i).memory, rfl, hlaid⟩).mono fun e W' ⟨he, hb⟩ => ?_
 subst he
 have hlt : ∀ x ∈ p, x.block < (w.forCall tape i).heap.size := fun x hx => hW.lt x (by rw [hbef]; simp [hx])
 have hlen : ds.length = fn'.params.size := by
  have : ∀ {ts : List TypeId} {vs : List Value} {xs : List (DataW H)} {ps : List MemPlace}, DataW.TrodAll enc C.prog (w.forCall tape i) 0 (fun _ => true) true ts vs xs ps → xs.length = ts.length := by
   intro ts
   induction ts with
   | nil => intro vs xs ps h; obtain ⟨rfl, rfl, rfl⟩ := trodAll_nil h; rfl
   | cons t ts ih => intro vs xs ps h; obtain ⟨v, vs', d, ds', p, q, rfl, rfl, rfl, hd, hrest⟩ := trodAll_cons h; simp [ih hrest]
  simpa using this hA
 have hsp := hspec ds hlen
 refine ChangeSpec.post_blind (v := .bool true) ⟨ds, [], before, [], p, [], hW, ?_, ?_, ?_, hb.frame _, fun h => by cases h⟩
 ·rw [List.append_nil, hsp, hres]; exact trodAll_mk1 (shut_bool hbool _)
 ·rw [List.append_nil, hsp]; exact below_all hl hb hrows hA hlt
 ·rw [List.append_nil, hsp, hvars]; rfl
theorem tabIs_heap {P : Program} {W W0 : World} {name : String} {k : IntKind} {zs : List Int} (h : TabIs P W0 name k zs) (he : W0.heap = W.heap) : TabIs P W name k zs := by
 unfold TabIs World.var? at h ⊢
 rw [← he]; exact h
section
variable {H : Type} {enc : TypeId × Value → H} {P : Program} {w : World} {base : Nat} {spare : Nat → Bool} {held : Bool} {r : Reach} {b0 : Nat} {v : Value} {d : DataW H} {p : List MemPlace}
end
end
section -- WkWa
open Go.RowKit Go.Lib
theorem decode_nodigit (s : ByteArray) (pos : Nat) (h : pos < s.size) (hd : ¬ (48 ≤ (s[pos]'h).toNat ∧ (s[pos]'h).toNat ≤ 57)) : ¬ (48 ≤ (Utf8.decode s pos).1 ∧ (Utf8.decode s pos).1 ≤ 57) := by
 have e : (s.get! (pos + 0)).toNat = (s[pos]'h).toNat := by
  rw [Nat.add_zero]
  congr 1
  simp [ByteArray.get!, getElem!_pos, h]
  rfl
 unfold Utf8.decode
 simp only [e]
 generalize (s[pos]'h).toNat = b at *
 repeat' split
 all_goals (simp only [Utf8.runeError, Bool.and_eq_true, decide_eq_true_eq] at *; omega)
section
variable (s : ByteArray) (w : World)
end
end
section -- WkXf
open Go.RowKit Go.Lib
end
section -- WkXg
open Go.RowKit Go.Lib
end
section -- WkXi
open Go.RowKit Go.Lib
end
section -- WkYa
open Go.RowKit Go.Lib
def cutB (c : UInt8) (s : ByteArray) : List ByteArray := splitB ⟨#[c]⟩ 0 (countB s ⟨#[c]⟩) s
theorem cutB_data (c : UInt8) (s : ByteArray) : (cutB c s).map (·.data.toList) = cutL c s.data.toList := splitB_cut c s
theorem extract_list (s : ByteArray) (i j : Nat) : (s.extract i j).data.toList = (s.data.toList.drop i).take (j - i) := by
 rw [ByteArray.data_extract, Array.toList_extract, List.extract_eq_take_drop]
end
section -- WkYb
open Go.RowKit Go.Lib
section
variable (s : ByteArray) (w : World)
end
end
section -- WkYc
open Go.RowKit Go.Lib
end
section -- WkYe
open Go.RowKit Go.Lib
theorem trim_end (s : ByteArray) (h : hasSuffix s.data.toList [10] = true) : s = ⟨(trimSuffix s.data.toList [10]).toArray⟩ ++ ⟨#[10]⟩ := by
 have h2 := h
 rw [hasSuffix, List.isSuffixOf_iff_suffix] at h2
 obtain ⟨t, ht⟩ := h2
 apply ba_list
 rw [ByteArray.data_append, Array.toList_append]
 show s.data.toList = (trimSuffix s.data.toList [10]) ++ [10]
 rw [trimSuffix, if_pos h, ← ht]
 simp
end
section -- WkYf
open Go.RowKit Go.Lib
theorem cut_size (c : UInt8) : ∀ l : List UInt8, (cutL c l).length ≤ l.length + 1 ∧ ∀ x ∈ cutL c l, x.length ≤ l.length
 | [] => by simp [cutL]
 | b :: l => by
  obtain ⟨h1, h2⟩ := cut_size c l
  rw [cutL]
  split
  ·refine ⟨by simp; omega, fun x hx => ?_⟩
   rcases List.mem_cons.1 hx with h | h
   ·rw [h]; simp
   ·have := h2 x h; simp; omega
  ·cases hM : cutL c l with
   | nil => exact absurd hM (cutL_ne c l)
   | cons y r =>
    rw [hM] at h1 h2
    refine ⟨by simp [putHead] at h1 ⊢; omega, fun x hx => ?_⟩
    rw [putHead] at hx
    rcases List.mem_cons.1 hx with h | h
    ·have := h2 y (by simp); rw [h]; simp; omega
    ·have := h2 x (by simp [h]); simp; omega
end
section -- WkYh
open Go.RowKit Go.Lib
end
section -- WkYi
open Go.RowKit Go.Lib
theorem lineS_jn1 (wd : ByteArray) (ws : List ByteArray) (h : ws ≠ []) : lineS wd ws = jnS (wd :: ws) ⟨#[32]⟩ := by
 cases ws with
 | nil => exact absurd rfl h
 | cons x r =>
  apply ba_list
  simp only [lineS, ByteArray.data_append, Array.toList_append]
  show wd.data.toList ++ [32] ++ (join ((x :: r).map (·.data.toList)) [32]).toArray.toList = (join ((wd :: x :: r).map (·.data.toList)) [32]).toArray.toList
  rw [List.map_cons, List.map_cons, List.map_cons, join_cons, join_cons]
  simp [joinTail]
end
section -- WkYj
open Go.RowKit Go.Lib
end
section -- WkYl
open Go.RowKit Go.Lib
end
section -- WkYm
open Go.RowKit Go.Lib
end
end
section
open Go.RowKit Go.Lib
theorem within_any (n lo hi : Int) (w : World) : Calls Tryz.prog 125 #[.int .i64 n, .int .i64 lo, .int .i64 hi] w fun e w' => e = .returned (.bool (inB n lo hi)) ∧ w = w' := by
 by_cases h1 : lo ≤ n
 ·by_cases h2 : n ≤ hi
  ·have e : inB n lo hi = true := by simp [inB, h1, h2]
   rw [e]
   go_enter Tryz.func125, Tryz.ntmps125
   go_wp2
   go_ret
   exact ⟨rfl, rfl⟩
  ·have e : inB n lo hi = false := by simp [inB, h2]
   rw [e]
   go_enter Tryz.func125, Tryz.ntmps125
   go_wp2
   go_ret
   exact ⟨rfl, rfl⟩
 ·have e : inB n lo hi = false := by simp [inB, h1]
  rw [e]
  go_enter Tryz.func125, Tryz.ntmps125
  go_wp2
  go_ret
  exact ⟨rfl, rfl⟩
theorem in_any (n lo hi : Int) (w : World) : Calls Tryz.prog 85 #[.int .i64 n, .int .i64 lo, .int .i64 hi] w fun e w' => e = .returned (.bool (inB n lo hi)) ∧ w = w' := by
 by_cases h1 : lo ≤ n
 ·by_cases h2 : n ≤ hi
  ·have e : inB n lo hi = true := by simp [inB, h1, h2]
   rw [e]
   go_enter Tryz.func85, Tryz.ntmps85
   go_wp2
   go_ret
   exact ⟨rfl, rfl⟩
  ·have e : inB n lo hi = false := by simp [inB, h2]
   rw [e]
   go_enter Tryz.func85, Tryz.ntmps85
   go_wp2
   go_ret
   exact ⟨rfl, rfl⟩
 ·have e : inB n lo hi = false := by simp [inB, h1]
  rw [e]
  go_enter Tryz.func85, Tryz.ntmps85
  go_wp2
  go_ret
  exact ⟨rfl, rfl⟩
structure VL where
 lost : Bool
 A : Option Addr
 n : Nat
 cap : Nat
 ws : List Int
def VL.cells (l : VL) : List Value := [.bool l.lost, .slice l.A l.n l.cap]
def VL.ok (w : World) (B : Nat) (l : VL) : Prop := l.n ≤ l.cap ∧ l.cap ≤ maxLen ∧ Rd w B 1 l.A l.n (l.ws.map (Value.int .i64))
structure VC where
 A : Option Addr
 n : Nat
 cap : Nat
 ls : List VL
def VC.val (c : VC) : Value := .slice c.A c.n c.cap
def VC.ok (w : World) (B : Nat) (c : VC) : Prop := c.n ≤ c.cap ∧ c.cap ≤ maxLen ∧ (∀ l ∈ c.ls, l.ok w B) ∧ Rd w B 2 c.A c.n (c.ls.flatMap VL.cells)
theorem VL.ok.below {w w' : World} {B : Nat} {l : VL} (h : l.ok w B) (hb : Below B w w') : l.ok w' B := ⟨h.1, h.2.1, h.2.2.below hb⟩
theorem VL.ok.more {w : World} {B B' : Nat} {l : VL} (h : l.ok w B) (hb : B ≤ B') : l.ok w B' := ⟨h.1, h.2.1, h.2.2.more hb⟩
theorem VC.ok.below {w w' : World} {B : Nat} {c : VC} (h : c.ok w B) (hb : Below B w w') : c.ok w' B := ⟨h.1, h.2.1, fun l hl => (h.2.2.1 l hl).below hb, h.2.2.2.below hb⟩
theorem VC.ok.more {w : World} {B B' : Nat} {c : VC} (h : c.ok w B) (hb : B ≤ B') : c.ok w B' := ⟨h.1, h.2.1, fun l hl => (h.2.2.1 l hl).more hb, h.2.2.2.more hb⟩
theorem okB {w w' : World} {c : VC} (h : c.ok w w.heap.size) (hB : Below w.heap.size w w') : c.ok w' w'.heap.size := (h.below hB).more hB.size
theorem flat2 : ∀ (l : List VL) (k j : Nat) (hk : k < l.length), j < 2 → (l.flatMap VL.cells)[k * 2 + j]? = (VL.cells l[k])[j]?
 | x :: l, 0, j, _, hj => by
  simp only [List.flatMap_cons, List.getElem_cons_zero, Nat.zero_mul, Nat.zero_add]
  rw [List.getElem?_append_left (by simp [VL.cells]; omega)]
 | x :: l, k + 1, j, hk, hj => by
  simp only [List.flatMap_cons, List.getElem_cons_succ]
  rw [List.getElem?_append_right (by simp [VL.cells]; omega), show (k + 1) * 2 + j - (VL.cells x).length = k * 2 + j by simp [VL.cells]; omega]
  exact flat2 l k j (by simpa using hk) hj
theorem flat2_len : ∀ l : List VL, (l.flatMap VL.cells).length = l.length * 2
 | [] => rfl
 | x :: l => by rw [List.flatMap_cons, List.length_append, flat2_len l]; simp [VL.cells]; omega
theorem Rd.len2 {w : World} {B : Nat} {A : Option Addr} {n : Nat} {l : List VL} (h : Rd w B 2 A n (l.flatMap VL.cells)) : l.length = n := by have := h.1; rw [flat2_len] at this; omega
theorem Rd.at2 {w : World} {B : Nat} {A : Option Addr} {n k : Nat} {l : List VL} (h : Rd w B 2 A n (l.flatMap VL.cells)) (hk : k < n) : ∃ b off, ∃ hz : k < l.length, A = some ⟨b, off, none⟩ ∧ b < B ∧ w.cell? ⟨b, off + k * 2, none⟩ = some (.bool l[k].lost) ∧ w.cell? ⟨b, off + k * 2 + 1, none⟩ = some (.slice l[k].A l[k].n l[k].cap) := by
 have hl := h.len2
 obtain ⟨b, off, rfl, hb, hc⟩ := h.2 (by omega)
 refine ⟨b, off, by omega, rfl, hb, ?_, ?_⟩
 ·exact hc (k * 2) _ (by have := flat2 l k 0 (by omega) (by omega); rw [Nat.add_zero] at this; rw [this]; rfl)
 ·exact hc (k * 2 + 1) _ (by rw [flat2 l k 1 (by omega) (by omega)]; rfl)
def lnB (W : Int) (ws : List Int) : Bool := decide (ws.length ≤ 4) && ws.all fun x => inB x 0 (W - 1)
def vlB (W : Int) (l : VL) : Bool := lnB W l.ws && !(l.lost && decide (0 < l.ws.length))
def headN (cs : List VC) : Nat := match cs with | [] => 0 | c :: _ => c.ls.length
def bookB (W : Int) (cs : List VC) : Bool := inB W 1 3 && inB cs.length 1 5 && inB (headN cs) 1 4 && cs.all fun c => c.ls.length == headN cs && c.ls.all (vlB W)
theorem badWord_any (x W : Int) (g : Nat) (v : Value) (w : World) (hb : Blk w g 24 #[.int .i64 W, v]) (h1 : -1000 ≤ W) (h2 : W ≤ 1000) : Calls Tryz.prog 129 #[.int .i64 x, .pointer (some ⟨g, 0, none⟩)] w fun e w' => e = .returned (.bool (!inB x 0 (W - 1))) ∧ w = w' := by
 have hq := fun i => hb.cell i
 go_enter Tryz.func129, Tryz.ntmps129
 go_wp2_with (go_at_call 125; refine (within_any x 0 (W - 1) _).mono ?_; rintro e w' ⟨rfl, rfl⟩)
 go_ret
 exact ⟨rfl, rfl⟩
end
section
open Go.RowKit Go.Lib
structure RI where
 A : Option Addr
 n : Nat
 cap : Nat
 ws : List Int
def RI.val (r : RI) : Value := .slice r.A r.n r.cap
def RI.ok (w : World) (B : Nat) (r : RI) : Prop := r.n ≤ r.cap ∧ r.cap ≤ maxLen ∧ Rd w B 1 r.A r.n (r.ws.map (Value.int .i64))
theorem RI.ok.below {w w' : World} {B : Nat} {r : RI} (h : r.ok w B) (hb : Below B w w') : r.ok w' B := ⟨h.1, h.2.1, h.2.2.below hb⟩
theorem RI.ok.more {w : World} {B B' : Nat} {r : RI} (h : r.ok w B) (hb : B ≤ B') : r.ok w B' := ⟨h.1, h.2.1, h.2.2.more hb⟩
structure QU where
 copy : Int
 line : Int
 left : Int
def QU.cells (q : QU) : List Value := [.int .i64 q.copy, .int .i64 q.line, .int .i64 q.left]
theorem flatQ : ∀ (l : List QU) (k j : Nat) (hk : k < l.length), j < 3 → (l.flatMap QU.cells)[k * 3 + j]? = (QU.cells l[k])[j]?
 | x :: l, 0, j, _, hj => by
  simp only [List.flatMap_cons, List.getElem_cons_zero, Nat.zero_mul, Nat.zero_add]
  rw [List.getElem?_append_left (by simp [QU.cells]; omega)]
 | x :: l, k + 1, j, hk, hj => by
  simp only [List.flatMap_cons, List.getElem_cons_succ]
  rw [List.getElem?_append_right (by simp [QU.cells]; omega), show (k + 1) * 3 + j - (QU.cells x).length = k * 3 + j by simp [QU.cells]; omega]
  exact flatQ l k j (by simpa using hk) hj
theorem flatQ_len : ∀ l : List QU, (l.flatMap QU.cells).length = l.length * 3
 | [] => rfl
 | x :: l => by rw [List.flatMap_cons, List.length_append, flatQ_len l]; simp [QU.cells]; omega
theorem Rd.lenQ {w : World} {B : Nat} {A : Option Addr} {n : Nat} {l : List QU} (h : Rd w B 3 A n (l.flatMap QU.cells)) : l.length = n := by have := h.1; rw [flatQ_len] at this; omega
theorem Rd.atQ {w : World} {B : Nat} {A : Option Addr} {n k : Nat} {l : List QU} (h : Rd w B 3 A n (l.flatMap QU.cells)) (hk : k < n) : ∃ b off, ∃ hz : k < l.length, A = some ⟨b, off, none⟩ ∧ b < B ∧ w.cell? ⟨b, off + k * 3, none⟩ = some (.int .i64 l[k].copy) ∧ w.cell? ⟨b, off + k * 3 + 1, none⟩ = some (.int .i64 l[k].line) ∧ w.cell? ⟨b, off + k * 3 + 2, none⟩ = some (.int .i64 l[k].left) := by
 have hl := h.lenQ
 obtain ⟨b, off, rfl, hb, hc⟩ := h.2 (by omega)
 refine ⟨b, off, by omega, rfl, hb, ?_, ?_, ?_⟩
 ·exact hc (k * 3) _ (by have := flatQ l k 0 (by omega) (by omega); rw [Nat.add_zero] at this; rw [this]; rfl)
 ·exact hc (k * 3 + 1) _ (by rw [flatQ l k 1 (by omega) (by omega)]; rfl)
 ·exact hc (k * 3 + 2) _ (by rw [flatQ l k 2 (by omega) (by omega)]; rfl)
theorem index_int (g : Nat) (c : Value) (p : Int → Bool) (A : Option Addr) (n cap : Nat) (xs : List Int) (w : World) (hn : n ≤ maxLen) (hr : Rd w w.heap.size 1 A n (xs.map (Value.int .i64)))
  (hcf : ∀ (a : Array Value) (w : World), Sem.run Tryz.prog (callFunc g a) w = .ok (Next.enter g a) w) (hp : Hid (∀ x ∈ xs, ∀ wx : World, Below w.heap.size w wx → Calls Tryz.prog g #[.int .i64 x, c] wx fun e w' => e = .returned (.bool (p x)) ∧ Below wx.heap.size wx w')) :
  Calls Tryz.prog 170 #[.slice A n cap, .func (.func g) #[] #[c]] w fun e w' => (∃ r : Int, e = .returned (.int .i64 r) ∧ (decide (0 ≤ r)) = xs.any p) ∧ Below w.heap.size w w' := by
 have hlen : xs.length = n := by simpa using hr.len
 have HL := Lib.hid hlen; clear hlen
 unfold maxLen at hn
 go_enter Tryz.func170, Tryz.ntmps170
 go_wp2_with fail
 go_loopg [8] n (fun g i wr => ∃ k : Nat, g = n - k ∧ k ≤ n ∧ i = .int .i64 k ∧ Hid ((xs.take k).any p = false) ∧ Below w.heap.size w wr)
 case atStart => exact ⟨0, rfl, Nat.zero_le _, rfl, Lib.hid rfl, Below.refl _ _⟩
 case round =>
  obtain ⟨k, hg, hk, rfl, hno, hB⟩ := hrel
  have HG := Lib.hid hg; clear hg
  by_cases hlt : k < n
  ·obtain ⟨b, off, hz, rfl, hb, hc⟩ := (hr.below hB).atm hlt
   have hin := List.getElem_mem hz
   have htk : xs.take (k + 1) = xs.take k ++ [xs[k]] := List.take_succ_eq_append_getElem hz
   generalize xs[k] = x at *
   have HIN := Lib.hid hin; have HTK := Lib.hid htk; clear hin htk hz
   have hBw := hB
   cases hpx : p x
   ·have HPX := Lib.hid hpx; clear hpx
    go_wp2_with (refine (hp.out x HIN.out _ hBw).mono ?_; rintro e w1 ⟨rfl, hb1⟩; rw [HPX.out]; replace hB := hB.trans (hb1.mono hB.size); clear hb1)
    go_roundg (n - (k + 1))
    case measure => rw [HG.out]; omega
    case rel => exact ⟨k + 1, rfl, by omega, by go_num, Lib.hid (by rw [HTK.out, List.any_append, hno.out]; simp [HPX.out]), hB⟩
   ·have HPX := Lib.hid hpx; clear hpx
    go_wp2_with (refine (hp.out x HIN.out _ hBw).mono ?_; rintro e w1 ⟨rfl, hb1⟩; rw [HPX.out]; replace hB := hB.trans (hb1.mono hB.size); clear hb1)
    go_ret
    refine ⟨⟨k, rfl, ?_⟩, hB⟩
    rw [decide_eq_true (by omega)]
    exact (List.any_eq_true.2 ⟨x, HIN.out, HPX.out⟩).symm
  ·have hge : ¬ (k : Int) < n := by omega
   go_wp2_with fail
   go_ret
   refine ⟨⟨-1, rfl, ?_⟩, hB⟩
   rw [decide_eq_false (by omega)]
   have h := hno.out
   rw [List.take_of_length_le (by have := HL.out; omega)] at h
   exact h.symm
theorem contains_int (g : Nat) (c : Value) (p : Int → Bool) (A : Option Addr) (n cap : Nat) (xs : List Int) (w : World) (hn : n ≤ maxLen) (hr : Rd w w.heap.size 1 A n (xs.map (Value.int .i64)))
  (hcf : ∀ (a : Array Value) (w : World), Sem.run Tryz.prog (callFunc g a) w = .ok (Next.enter g a) w) (hp : Hid (∀ x ∈ xs, ∀ wx : World, Below w.heap.size w wx → Calls Tryz.prog g #[.int .i64 x, c] wx fun e w' => e = .returned (.bool (p x)) ∧ Below wx.heap.size wx w')) :
  Calls Tryz.prog 130 #[.slice A n cap, .func (.func g) #[] #[c]] w fun e w' => e = .returned (.bool (xs.any p)) ∧ Below w.heap.size w w' := by
 have hi := index_int g c p A n cap xs w hn hr hcf hp
 have HI := Lib.hid hi; clear hi hp hcf
 go_enter Tryz.func130, Tryz.ntmps130
 cases hb : xs.any p
 all_goals
  have HBB := Lib.hid hb; clear hb
  go_wp2_with fail
  refine HI.out.mono ?_
  rintro e w1 ⟨⟨r, rfl, hr0⟩, hB⟩
  rw [HBB.out] at hr0
  first
   | (have hr1 : r < 0 := by simpa using hr0
      go_wp2_with fail
      go_ret
      exact ⟨rfl, hB⟩)
   | (have hr1 : 0 ≤ r := by simpa using hr0
      go_wp2_with fail
      go_ret
      exact ⟨rfl, hB⟩)
theorem index_vl (g : Nat) (c : Value) (p : VL → Bool) (A : Option Addr) (n cap : Nat) (xs : List VL) (w : World) (hn : n ≤ maxLen) (hr : Rd w w.heap.size 2 A n (xs.flatMap VL.cells))
  (hcf : ∀ (a : Array Value) (w : World), Sem.run Tryz.prog (callFunc g a) w = .ok (Next.enter g a) w) (hp : Hid (∀ x ∈ xs, ∀ wx : World, Below w.heap.size w wx → Calls Tryz.prog g #[.agg #[.bool x.lost, .slice x.A x.n x.cap], c] wx fun e w' => e = .returned (.bool (p x)) ∧ Below wx.heap.size wx w')) :
  Calls Tryz.prog 169 #[.slice A n cap, .func (.func g) #[] #[c]] w fun e w' => (∃ r : Int, e = .returned (.int .i64 r) ∧ (decide (0 ≤ r)) = xs.any p) ∧ Below w.heap.size w w' := by
 have hlen : xs.length = n := hr.len2
 have HL := Lib.hid hlen; clear hlen
 unfold maxLen at hn
 go_enter Tryz.func169, Tryz.ntmps169
 go_wp2_with fail
 go_loopg [8] n (fun g i wr => ∃ k : Nat, g = n - k ∧ k ≤ n ∧ i = .int .i64 k ∧ Hid ((xs.take k).any p = false) ∧ Below w.heap.size w wr)
 case atStart => exact ⟨0, rfl, Nat.zero_le _, rfl, Lib.hid rfl, Below.refl _ _⟩
 case round =>
  obtain ⟨k, hg, hk, rfl, hno, hB⟩ := hrel
  have HG := Lib.hid hg; clear hg
  by_cases hlt : k < n
  ·obtain ⟨b, off, hz, rfl, hb, hc, hc1⟩ := (hr.below hB).at2 hlt
   have hin := List.getElem_mem hz
   have htk : xs.take (k + 1) = xs.take k ++ [xs[k]] := List.take_succ_eq_append_getElem hz
   generalize xs[k] = x at *
   have HIN := Lib.hid hin; have HTK := Lib.hid htk; clear hin htk hz
   have hBw := hB
   cases hpx : p x
   ·have HPX := Lib.hid hpx; clear hpx
    go_wp2_with (refine (hp.out x HIN.out _ hBw).mono ?_; rintro e w1 ⟨rfl, hb1⟩; rw [HPX.out]; replace hB := hB.trans (hb1.mono hB.size); clear hb1)
    go_roundg (n - (k + 1))
    case measure => rw [HG.out]; omega
    case rel => exact ⟨k + 1, rfl, by omega, by go_num, Lib.hid (by rw [HTK.out, List.any_append, hno.out]; simp [HPX.out]), hB⟩
   ·have HPX := Lib.hid hpx; clear hpx
    go_wp2_with (refine (hp.out x HIN.out _ hBw).mono ?_; rintro e w1 ⟨rfl, hb1⟩; rw [HPX.out]; replace hB := hB.trans (hb1.mono hB.size); clear hb1)
    go_ret
    refine ⟨⟨k, rfl, ?_⟩, hB⟩
    rw [decide_eq_true (by omega)]
    exact (List.any_eq_true.2 ⟨x, HIN.out, HPX.out⟩).symm
  ·have hge : ¬ (k : Int) < n := by omega
   go_wp2_with fail
   go_ret
   refine ⟨⟨-1, rfl, ?_⟩, hB⟩
   rw [decide_eq_false (by omega)]
   have h := hno.out
   rw [List.take_of_length_le (by have := HL.out; omega)] at h
   exact h.symm
theorem contains_vl (g : Nat) (c : Value) (p : VL → Bool) (A : Option Addr) (n cap : Nat) (xs : List VL) (w : World) (hn : n ≤ maxLen) (hr : Rd w w.heap.size 2 A n (xs.flatMap VL.cells))
  (hcf : ∀ (a : Array Value) (w : World), Sem.run Tryz.prog (callFunc g a) w = .ok (Next.enter g a) w) (hp : Hid (∀ x ∈ xs, ∀ wx : World, Below w.heap.size w wx → Calls Tryz.prog g #[.agg #[.bool x.lost, .slice x.A x.n x.cap], c] wx fun e w' => e = .returned (.bool (p x)) ∧ Below wx.heap.size wx w')) :
  Calls Tryz.prog 128 #[.slice A n cap, .func (.func g) #[] #[c]] w fun e w' => e = .returned (.bool (xs.any p)) ∧ Below w.heap.size w w' := by
 have hi := index_vl g c p A n cap xs w hn hr hcf hp
 have HI := Lib.hid hi; clear hi hp hcf
 go_enter Tryz.func128, Tryz.ntmps128
 cases hb : xs.any p
 all_goals
  have HBB := Lib.hid hb; clear hb
  go_wp2_with fail
  refine HI.out.mono ?_
  rintro e w1 ⟨⟨r, rfl, hr0⟩, hB⟩
  rw [HBB.out] at hr0
  first
   | (have hr1 : r < 0 := by simpa using hr0
      go_wp2_with fail
      go_ret
      exact ⟨rfl, hB⟩)
   | (have hr1 : 0 ≤ r := by simpa using hr0
      go_wp2_with fail
      go_ret
      exact ⟨rfl, hB⟩)
theorem index_str (g : Nat) (c : Value) (p : ByteArray → Bool) (A : Option Addr) (n cap : Nat) (xs : List ByteArray) (w : World) (hn : n ≤ maxLen) (hr : Rd w w.heap.size 1 A n (xs.map Value.string))
  (hcf : ∀ (a : Array Value) (w : World), Sem.run Tryz.prog (callFunc g a) w = .ok (Next.enter g a) w) (hp : Hid (∀ x ∈ xs, ∀ wx : World, Below w.heap.size w wx → Calls Tryz.prog g #[.string x, c] wx fun e w' => e = .returned (.bool (p x)) ∧ Below wx.heap.size wx w')) :
  Calls Tryz.prog 185 #[.slice A n cap, .func (.func g) #[] #[c]] w fun e w' => (∃ r : Int, e = .returned (.int .i64 r) ∧ (decide (0 ≤ r)) = xs.any p) ∧ Below w.heap.size w w' := by
 have hlen : xs.length = n := by simpa using hr.len
 have HL := Lib.hid hlen; clear hlen
 unfold maxLen at hn
 go_enter Tryz.func185, Tryz.ntmps185
 go_wp2_with fail
 go_loopg [8] n (fun g i wr => ∃ k : Nat, g = n - k ∧ k ≤ n ∧ i = .int .i64 k ∧ Hid ((xs.take k).any p = false) ∧ Below w.heap.size w wr)
 case atStart => exact ⟨0, rfl, Nat.zero_le _, rfl, Lib.hid rfl, Below.refl _ _⟩
 case round =>
  obtain ⟨k, hg, hk, rfl, hno, hB⟩ := hrel
  have HG := Lib.hid hg; clear hg
  by_cases hlt : k < n
  ·obtain ⟨b, off, hz, rfl, hb, hc⟩ := (hr.below hB).atm hlt
   have hin := List.getElem_mem hz
   have htk : xs.take (k + 1) = xs.take k ++ [xs[k]] := List.take_succ_eq_append_getElem hz
   generalize xs[k] = x at *
   have HIN := Lib.hid hin; have HTK := Lib.hid htk; clear hin htk hz
   have hBw := hB
   cases hpx : p x
   ·have HPX := Lib.hid hpx; clear hpx
    go_wp2_with (refine (hp.out x HIN.out _ hBw).mono ?_; rintro e w1 ⟨rfl, hb1⟩; rw [HPX.out]; replace hB := hB.trans (hb1.mono hB.size); clear hb1)
    go_roundg (n - (k + 1))
    case measure => rw [HG.out]; omega
    case rel => exact ⟨k + 1, rfl, by omega, by go_num, Lib.hid (by rw [HTK.out, List.any_append, hno.out]; simp [HPX.out]), hB⟩
   ·have HPX := Lib.hid hpx; clear hpx
    go_wp2_with (refine (hp.out x HIN.out _ hBw).mono ?_; rintro e w1 ⟨rfl, hb1⟩; rw [HPX.out]; replace hB := hB.trans (hb1.mono hB.size); clear hb1)
    go_ret
    refine ⟨⟨k, rfl, ?_⟩, hB⟩
    rw [decide_eq_true (by omega)]
    exact (List.any_eq_true.2 ⟨x, HIN.out, HPX.out⟩).symm
  ·have hge : ¬ (k : Int) < n := by omega
   go_wp2_with fail
   go_ret
   refine ⟨⟨-1, rfl, ?_⟩, hB⟩
   rw [decide_eq_false (by omega)]
   have h := hno.out
   rw [List.take_of_length_le (by have := HL.out; omega)] at h
   exact h.symm
theorem contains_str (g : Nat) (c : Value) (p : ByteArray → Bool) (A : Option Addr) (n cap : Nat) (xs : List ByteArray) (w : World) (hn : n ≤ maxLen) (hr : Rd w w.heap.size 1 A n (xs.map Value.string))
  (hcf : ∀ (a : Array Value) (w : World), Sem.run Tryz.prog (callFunc g a) w = .ok (Next.enter g a) w) (hp : Hid (∀ x ∈ xs, ∀ wx : World, Below w.heap.size w wx → Calls Tryz.prog g #[.string x, c] wx fun e w' => e = .returned (.bool (p x)) ∧ Below wx.heap.size wx w')) :
  Calls Tryz.prog 138 #[.slice A n cap, .func (.func g) #[] #[c]] w fun e w' => e = .returned (.bool (xs.any p)) ∧ Below w.heap.size w w' := by
 have hi := index_str g c p A n cap xs w hn hr hcf hp
 have HI := Lib.hid hi; clear hi hp hcf
 go_enter Tryz.func138, Tryz.ntmps138
 cases hb : xs.any p
 all_goals
  have HBB := Lib.hid hb; clear hb
  go_wp2_with fail
  refine HI.out.mono ?_
  rintro e w1 ⟨⟨r, rfl, hr0⟩, hB⟩
  rw [HBB.out] at hr0
  first
   | (have hr1 : r < 0 := by simpa using hr0
      go_wp2_with fail
      go_ret
      exact ⟨rfl, hB⟩)
   | (have hr1 : 0 ≤ r := by simpa using hr0
      go_wp2_with fail
      go_ret
      exact ⟨rfl, hB⟩)
theorem index_row (g : Nat) (c : Value) (p : RI → Bool) (A : Option Addr) (n cap : Nat) (xs : List RI) (w : World) (hn : n ≤ maxLen) (hr : Rd w w.heap.size 1 A n (xs.map RI.val))
  (hcf : ∀ (a : Array Value) (w : World), Sem.run Tryz.prog (callFunc g a) w = .ok (Next.enter g a) w) (hp : Hid (∀ x ∈ xs, ∀ wx : World, Below w.heap.size w wx → Calls Tryz.prog g #[.slice x.A x.n x.cap, c] wx fun e w' => e = .returned (.bool (p x)) ∧ Below wx.heap.size wx w')) :
  Calls Tryz.prog 186 #[.slice A n cap, .func (.func g) #[] #[c]] w fun e w' => (∃ r : Int, e = .returned (.int .i64 r) ∧ (decide (0 ≤ r)) = xs.any p) ∧ Below w.heap.size w w' := by
 have hlen : xs.length = n := by simpa using hr.len
 have HL := Lib.hid hlen; clear hlen
 unfold maxLen at hn
 go_enter Tryz.func186, Tryz.ntmps186
 go_wp2_with fail
 go_loopg [8] n (fun g i wr => ∃ k : Nat, g = n - k ∧ k ≤ n ∧ i = .int .i64 k ∧ Hid ((xs.take k).any p = false) ∧ Below w.heap.size w wr)
 case atStart => exact ⟨0, rfl, Nat.zero_le _, rfl, Lib.hid rfl, Below.refl _ _⟩
 case round =>
  obtain ⟨k, hg, hk, rfl, hno, hB⟩ := hrel
  have HG := Lib.hid hg; clear hg
  by_cases hlt : k < n
  ·obtain ⟨b, off, hz, rfl, hb, hc⟩ := (hr.below hB).atm hlt
   have hin := List.getElem_mem hz
   have htk : xs.take (k + 1) = xs.take k ++ [xs[k]] := List.take_succ_eq_append_getElem hz
   generalize xs[k] = x at *
   have HIN := Lib.hid hin; have HTK := Lib.hid htk; clear hin htk hz
   unfold RI.val at hc
   have hBw := hB
   cases hpx : p x
   ·have HPX := Lib.hid hpx; clear hpx
    go_wp2_with (refine (hp.out x HIN.out _ hBw).mono ?_; rintro e w1 ⟨rfl, hb1⟩; rw [HPX.out]; replace hB := hB.trans (hb1.mono hB.size); clear hb1)
    go_roundg (n - (k + 1))
    case measure => rw [HG.out]; omega
    case rel => exact ⟨k + 1, rfl, by omega, by go_num, Lib.hid (by rw [HTK.out, List.any_append, hno.out]; simp [HPX.out]), hB⟩
   ·have HPX := Lib.hid hpx; clear hpx
    go_wp2_with (refine (hp.out x HIN.out _ hBw).mono ?_; rintro e w1 ⟨rfl, hb1⟩; rw [HPX.out]; replace hB := hB.trans (hb1.mono hB.size); clear hb1)
    go_ret
    refine ⟨⟨k, rfl, ?_⟩, hB⟩
    rw [decide_eq_true (by omega)]
    exact (List.any_eq_true.2 ⟨x, HIN.out, HPX.out⟩).symm
  ·have hge : ¬ (k : Int) < n := by omega
   go_wp2_with fail
   go_ret
   refine ⟨⟨-1, rfl, ?_⟩, hB⟩
   rw [decide_eq_false (by omega)]
   have h := hno.out
   rw [List.take_of_length_le (by have := HL.out; omega)] at h
   exact h.symm
theorem contains_row (g : Nat) (c : Value) (p : RI → Bool) (A : Option Addr) (n cap : Nat) (xs : List RI) (w : World) (hn : n ≤ maxLen) (hr : Rd w w.heap.size 1 A n (xs.map RI.val))
  (hcf : ∀ (a : Array Value) (w : World), Sem.run Tryz.prog (callFunc g a) w = .ok (Next.enter g a) w) (hp : Hid (∀ x ∈ xs, ∀ wx : World, Below w.heap.size w wx → Calls Tryz.prog g #[.slice x.A x.n x.cap, c] wx fun e w' => e = .returned (.bool (p x)) ∧ Below wx.heap.size wx w')) :
  Calls Tryz.prog 146 #[.slice A n cap, .func (.func g) #[] #[c]] w fun e w' => e = .returned (.bool (xs.any p)) ∧ Below w.heap.size w w' := by
 have hi := index_row g c p A n cap xs w hn hr hcf hp
 have HI := Lib.hid hi; clear hi hp hcf
 go_enter Tryz.func146, Tryz.ntmps146
 cases hb : xs.any p
 all_goals
  have HBB := Lib.hid hb; clear hb
  go_wp2_with fail
  refine HI.out.mono ?_
  rintro e w1 ⟨⟨r, rfl, hr0⟩, hB⟩
  rw [HBB.out] at hr0
  first
   | (have hr1 : r < 0 := by simpa using hr0
      go_wp2_with fail
      go_ret
      exact ⟨rfl, hB⟩)
   | (have hr1 : 0 ≤ r := by simpa using hr0
      go_wp2_with fail
      go_ret
      exact ⟨rfl, hB⟩)
theorem index_qu (g : Nat) (c : Value) (p : QU → Bool) (A : Option Addr) (n cap : Nat) (xs : List QU) (w : World) (hn : n ≤ maxLen) (hr : Rd w w.heap.size 3 A n (xs.flatMap QU.cells))
  (hcf : ∀ (a : Array Value) (w : World), Sem.run Tryz.prog (callFunc g a) w = .ok (Next.enter g a) w) (hp : Hid (∀ x ∈ xs, ∀ wx : World, Below w.heap.size w wx → Calls Tryz.prog g #[.agg #[.int .i64 x.copy, .int .i64 x.line, .int .i64 x.left], c] wx fun e w' => e = .returned (.bool (p x)) ∧ Below wx.heap.size wx w')) :
  Calls Tryz.prog 187 #[.slice A n cap, .func (.func g) #[] #[c]] w fun e w' => (∃ r : Int, e = .returned (.int .i64 r) ∧ (decide (0 ≤ r)) = xs.any p) ∧ Below w.heap.size w w' := by
 have hlen : xs.length = n := hr.lenQ
 have HL := Lib.hid hlen; clear hlen
 unfold maxLen at hn
 go_enter Tryz.func187, Tryz.ntmps187
 go_wp2_with fail
 go_loopg [8] n (fun g i wr => ∃ k : Nat, g = n - k ∧ k ≤ n ∧ i = .int .i64 k ∧ Hid ((xs.take k).any p = false) ∧ Below w.heap.size w wr)
 case atStart => exact ⟨0, rfl, Nat.zero_le _, rfl, Lib.hid rfl, Below.refl _ _⟩
 case round =>
  obtain ⟨k, hg, hk, rfl, hno, hB⟩ := hrel
  have HG := Lib.hid hg; clear hg
  by_cases hlt : k < n
  ·obtain ⟨b, off, hz, rfl, hb, hc, hc1, hc2⟩ := (hr.below hB).atQ hlt
   have hin := List.getElem_mem hz
   have htk : xs.take (k + 1) = xs.take k ++ [xs[k]] := List.take_succ_eq_append_getElem hz
   generalize xs[k] = x at *
   have HIN := Lib.hid hin; have HTK := Lib.hid htk; clear hin htk hz
   have hBw := hB
   cases hpx : p x
   ·have HPX := Lib.hid hpx; clear hpx
    go_wp2_with (refine (hp.out x HIN.out _ hBw).mono ?_; rintro e w1 ⟨rfl, hb1⟩; rw [HPX.out]; replace hB := hB.trans (hb1.mono hB.size); clear hb1)
    go_roundg (n - (k + 1))
    case measure => rw [HG.out]; omega
    case rel => exact ⟨k + 1, rfl, by omega, by go_num, Lib.hid (by rw [HTK.out, List.any_append, hno.out]; simp [HPX.out]), hB⟩
   ·have HPX := Lib.hid hpx; clear hpx
    go_wp2_with (refine (hp.out x HIN.out _ hBw).mono ?_; rintro e w1 ⟨rfl, hb1⟩; rw [HPX.out]; replace hB := hB.trans (hb1.mono hB.size); clear hb1)
    go_ret
    refine ⟨⟨k, rfl, ?_⟩, hB⟩
    rw [decide_eq_true (by omega)]
    exact (List.any_eq_true.2 ⟨x, HIN.out, HPX.out⟩).symm
  ·have hge : ¬ (k : Int) < n := by omega
   go_wp2_with fail
   go_ret
   refine ⟨⟨-1, rfl, ?_⟩, hB⟩
   rw [decide_eq_false (by omega)]
   have h := hno.out
   rw [List.take_of_length_le (by have := HL.out; omega)] at h
   exact h.symm
theorem contains_qu (g : Nat) (c : Value) (p : QU → Bool) (A : Option Addr) (n cap : Nat) (xs : List QU) (w : World) (hn : n ≤ maxLen) (hr : Rd w w.heap.size 3 A n (xs.flatMap QU.cells))
  (hcf : ∀ (a : Array Value) (w : World), Sem.run Tryz.prog (callFunc g a) w = .ok (Next.enter g a) w) (hp : Hid (∀ x ∈ xs, ∀ wx : World, Below w.heap.size w wx → Calls Tryz.prog g #[.agg #[.int .i64 x.copy, .int .i64 x.line, .int .i64 x.left], c] wx fun e w' => e = .returned (.bool (p x)) ∧ Below wx.heap.size wx w')) :
  Calls Tryz.prog 153 #[.slice A n cap, .func (.func g) #[] #[c]] w fun e w' => e = .returned (.bool (xs.any p)) ∧ Below w.heap.size w w' := by
 have hi := index_qu g c p A n cap xs w hn hr hcf hp
 have HI := Lib.hid hi; clear hi hp hcf
 go_enter Tryz.func153, Tryz.ntmps153
 cases hb : xs.any p
 all_goals
  have HBB := Lib.hid hb; clear hb
  go_wp2_with fail
  refine HI.out.mono ?_
  rintro e w1 ⟨⟨r, rfl, hr0⟩, hB⟩
  rw [HBB.out] at hr0
  first
   | (have hr1 : r < 0 := by simpa using hr0
      go_wp2_with fail
      go_ret
      exact ⟨rfl, hB⟩)
   | (have hr1 : 0 ≤ r := by simpa using hr0
      go_wp2_with fail
      go_ret
      exact ⟨rfl, hB⟩)
end
section
open Go.RowKit Go.Lib
theorem goodLine_any (W : Int) (BA : Option Addr) (bn bc : Nat) (A : Option Addr) (n cap : Nat) (ws : List Int) (w : World) (h1 : 1 ≤ W) (h2 : W ≤ 3) (hn : n ≤ maxLen) (hr : Rd w w.heap.size 1 A n (ws.map (Value.int .i64))) :
  Calls Tryz.prog 82 #[.agg #[.int .i64 W, .slice BA bn bc], .slice A n cap] w fun e w' => e = .returned (.bool (lnB W ws)) ∧ Below w.heap.size w w' := by
 have hlen : ws.length = n := by simpa using hr.len
 have hB : Below w.heap.size w (w.alloc (.cells #[.int .i64 W, .slice BA bn bc] 24)) := (Below.refl _ w).alloc (Nat.le_refl _) _
 have hX := Blk.new w 24 #[.int .i64 W, .slice BA bn bc]
 by_cases h4 : n ≤ 4
 ·have hc := contains_int 129 (.pointer (some ⟨w.heap.size, 0, none⟩)) (fun x => !inB x 0 (W - 1)) A n cap ws (w.alloc (.cells #[.int .i64 W, .slice BA bn bc] 24)) hn (rdB hr hB) (fun _ _ => rfl)
   (Lib.hid fun x _ wx hx => (badWord_any x W w.heap.size _ wx (hX.below hx hX.lt) (by omega) (by omega)).mono fun e w' ⟨h, h'⟩ => ⟨h, h' ▸ Below.refl _ _⟩)
  have he : lnB W ws = !(ws.any fun x => !inB x 0 (W - 1)) := by
   unfold lnB
   rw [decide_eq_true (by omega), Bool.true_and, List.all_eq_not_any_not]
  rw [he]
  have HC := Lib.hid hc; clear hc he hlen
  have h4i : (n : Int) ≤ 4 := by omega
  go_enter Tryz.func82, Tryz.ntmps82
  go_wp2_with (go_at_call 130; refine HC.out.mono ?_; rintro e w1 ⟨rfl, hb⟩; replace hB := hB.trans (hb.mono hB.size))
  go_ret
  exact ⟨rfl, hB⟩
 ·have he : lnB W ws = false := by
   unfold lnB
   rw [decide_eq_false (by omega), Bool.false_and]
  rw [he]
  have h4i : ¬ (n : Int) ≤ 4 := by omega
  clear he hlen
  go_enter Tryz.func82, Tryz.ntmps82
  go_wp2_with fail
  go_ret
  exact ⟨rfl, hB⟩
theorem lineCount_any (W : Int) (A : Option Addr) (n cap : Nat) (cs : List VC) (w : World) (hn : 1 ≤ n) (hr : Rd w w.heap.size 1 A n (cs.map VC.val)) (hc : ∀ c ∈ cs, c.ok w w.heap.size) :
  Calls Tryz.prog 126 #[.agg #[.int .i64 W, .slice A n cap]] w fun e w' => e = .returned (.int .i64 (headN cs)) ∧ Below w.heap.size w w' := by
 obtain ⟨b, off, hz, rfl, hb, hq⟩ := hr.atm (show 0 < n by omega)
 match cs, hz with
 | c :: rest, _ =>
  have hl := (hc c (by simp)).2.2.2.len2
  simp only [List.getElem_cons_zero, VC.val, Nat.add_zero] at hq
  have e : (headN (c :: rest) : Nat) = c.n := hl
  rw [e]
  have hn0 : (0 : Int) < n := by omega
  clear hl e
  go_enter Tryz.func126, Tryz.ntmps126
  have hq2 := (World.cell?_alloc_lt w (.cells #[.int .i64 W, .slice (some ⟨b, off, none⟩) n cap] 24) ⟨b, off, none⟩ hb).trans hq
  go_wp2
  go_ret
  exact ⟨rfl, (Below.refl _ w).alloc (Nat.le_refl _) _⟩
theorem badLine_any (W : Int) (BA : Option Addr) (bn bc : Nat) (l : VL) (g : Nat) (w : World) (h1 : 1 ≤ W) (h2 : W ≤ 3) (hb : Blk w g 24 #[.int .i64 W, .slice BA bn bc]) (hl : l.ok w w.heap.size) :
  Calls Tryz.prog 127 #[.agg #[.bool l.lost, .slice l.A l.n l.cap], .pointer (some ⟨g, 0, none⟩)] w fun e w' => e = .returned (.bool (!vlB W l)) ∧ Below w.heap.size w w' := by
 obtain ⟨lost, A, n, cap, ws⟩ := l
 obtain ⟨k1, k2, k3⟩ := hl
 dsimp only at k1 k2 k3 ⊢
 have hlen : ws.length = n := by simpa using k3.len
 have hB : Below w.heap.size w (w.alloc (.cells #[.bool lost, .slice A n cap] 76)) := (Below.refl _ w).alloc (Nat.le_refl _) _
 have hX := Blk.new w 76 #[.bool lost, .slice A n cap]
 have hb1 := hb.alloc (.cells #[.bool lost, .slice A n cap] 76)
 have hg := goodLine_any W BA bn bc A n cap ws _ h1 h2 (by omega) (rdB k3 hB)
 have q0 := fun i => hb1.cell i; have q1 := fun i => hX.cell i
 have he : vlB W ⟨lost, A, n, cap, ws⟩ = (lnB W ws && !(lost && decide (0 < n))) := by unfold vlB; rw [hlen]
 rw [he]
 clear he hlen
 cases hln : lnB W ws
 ·rw [hln] at hg
  have HG := Lib.hid hg; clear hg hln
  go_enter Tryz.func127, Tryz.ntmps127
  go_wp2_with (go_at_call 82; refine HG.out.mono ?_; rintro e w1 ⟨rfl, hbb⟩; replace hB := hB.trans (hbb.mono hB.size))
  go_ret
  exact ⟨rfl, hB⟩
 ·rw [hln] at hg
  have HG := Lib.hid hg; clear hg hln
  cases lost
  ·go_enter Tryz.func127, Tryz.ntmps127
   go_wp2_with (go_at_call 82; refine HG.out.mono ?_; rintro e w1 ⟨rfl, hbb⟩; replace hB := hB.trans (hbb.mono hB.size); replace hX := hX.below hbb hX.lt; clear q0 q1; have q1 := fun i => hX.cell i)
   go_ret
   exact ⟨rfl, hB⟩
  ·by_cases h0 : 0 < n
   ·have h0i : (0 : Int) < n := by omega
    rw [decide_eq_true h0]
    go_enter Tryz.func127, Tryz.ntmps127
    go_wp2_with (go_at_call 82; refine HG.out.mono ?_; rintro e w1 ⟨rfl, hbb⟩; replace hB := hB.trans (hbb.mono hB.size); replace hX := hX.below hbb hX.lt; clear q0 q1; have q1 := fun i => hX.cell i)
    go_ret
    exact ⟨rfl, hB⟩
   ·have h0i : ¬ (0 : Int) < n := by omega
    rw [decide_eq_false h0]
    go_enter Tryz.func127, Tryz.ntmps127
    go_wp2_with (go_at_call 82; refine HG.out.mono ?_; rintro e w1 ⟨rfl, hbb⟩; replace hB := hB.trans (hbb.mono hB.size); replace hX := hX.below hbb hX.lt; clear q0 q1; have q1 := fun i => hX.cell i)
    go_ret
    exact ⟨rfl, hB⟩
theorem any_bad {α : Type} (p : α → Bool) : ∀ l : List α, (l.any fun x => !p x) = !(l.all p)
 | [] => rfl
 | x :: l => by rw [List.any_cons, List.all_cons, any_bad p l]; cases p x <;> rfl
def restB (W : Int) (h : Nat) (cs : List VC) : Bool := cs.all fun c => c.ls.length == h && c.ls.all (vlB W)
theorem goodBook_any (W : Int) (A : Option Addr) (n cap : Nat) (cs : List VC) (w : World) (hn : n ≤ maxLen) (hr : Rd w w.heap.size 1 A n (cs.map VC.val)) (hc : ∀ c ∈ cs, c.ok w w.heap.size) :
  Calls Tryz.prog 81 #[.agg #[.int .i64 W, .slice A n cap]] w fun e w' => e = .returned (.bool (bookB W cs)) ∧ Below w.heap.size w w' := by
 have hlen : cs.length = n := by simpa using hr.len
 have hB : Below w.heap.size w (w.alloc (.cells #[.int .i64 W, .slice A n cap] 24)) := (Below.refl _ w).alloc (Nat.le_refl _) _
 have hX := Blk.new w 24 #[.int .i64 W, .slice A n cap]
 have he : bookB W cs = (inB W 1 3 && inB n 1 5 && inB (headN cs) 1 4 && restB W (headN cs) cs) := by unfold bookB restB; rw [hlen]
 rw [he]
 clear he
 have q0 := fun i => hX.cell i
 cases h1 : inB W 1 3
 ·go_enter Tryz.func81, Tryz.ntmps81
  go_wp2_with (go_at_call 125; refine (within_any _ _ _ _).mono ?_; rintro e w1 ⟨rfl, rfl⟩)
  go_ret
  exact ⟨rfl, hB⟩
 cases h2 : inB n 1 5
 ·go_enter Tryz.func81, Tryz.ntmps81
  go_wp2_with (go_at_call 125; refine (within_any _ _ _ _).mono ?_; rintro e w1 ⟨rfl, rfl⟩)
  go_ret
  exact ⟨rfl, hB⟩
 have hW : 1 ≤ W ∧ W ≤ 3 := by simpa [inB] using h1
 have hN : 1 ≤ n ∧ n ≤ 5 := by have := h2; simp [inB] at this; omega
 obtain ⟨h, hh⟩ : ∃ h, h = headN cs := ⟨_, rfl⟩
 have hlc := fun wx (hx : Below w.heap.size w wx) => lineCount_any W A n cap cs wx (by omega) (rdB hr hx) (fun c hcc => okB (hc c hcc) hx)
 rw [← hh] at hlc ⊢
 have HLC := Lib.hid hlc; have HH := Lib.hid hh; have HLEN := Lib.hid hlen; clear hlc hh hlen
 cases h3 : inB h 1 4
 ·go_enter Tryz.func81, Tryz.ntmps81
  go_wp2_with (first
    | (go_at_call 125; refine (within_any _ _ _ _).mono ?_; rintro e w1 ⟨rfl, rfl⟩)
    | (go_at_call 126; refine (HLC.out _ hB).mono ?_; rintro e w1 ⟨rfl, hb⟩; replace hB := hB.trans (hb.mono hB.size)))
  go_ret
  exact ⟨rfl, hB⟩
 have hh4 : h ≤ 4 := by have := h3; simp [inB] at this; omega
 go_enter Tryz.func81, Tryz.ntmps81
 go_wp2_with (first
   | (go_at_call 125; refine (within_any _ _ _ _).mono ?_; rintro e w1 ⟨rfl, rfl⟩)
   | (go_at_call 126; refine (HLC.out _ hB).mono ?_; rintro e w1 ⟨rfl, hb⟩; replace hB := hB.trans (hb.mono hB.size); replace hX := hX.below hb hX.lt; clear q0; have q0 := fun i => hX.cell i))
 clear h1 h2 h3 q0
 go_loopg [26] n (fun g i wr => ∃ k : Nat, g = n - k ∧ k ≤ n ∧ i = .int .i64 k ∧ Hid (restB W h (cs.take k) = true) ∧ Blk wr w.heap.size 24 #[.int .i64 W, .slice A n cap] ∧ Below w.heap.size w wr)
 case atStart => exact ⟨0, rfl, Nat.zero_le _, rfl, Lib.hid rfl, hX, hB⟩
 case round =>
  clear hX hB
  obtain ⟨k, hg, hk, rfl, hall, hX, hB⟩ := hrel
  have HG := Lib.hid hg; clear hg
  rename World => wr
  by_cases hlt : k < n
  ·have hlti : (k : Int) < n := by omega
   obtain ⟨b, off, hz, rfl, hb, hcell⟩ := (hr.below hB).atm hlt
   have hin := List.getElem_mem hz
   have htk : cs.take (k + 1) = cs.take k ++ [cs[k]] := List.take_succ_eq_append_getElem hz
   generalize cs[k] = c at *
   have hok := hc c hin
   have HIN := Lib.hid hin; have HTK := Lib.hid htk; clear hin htk hz
   have hcl := hok.2.2.2.len2
   unfold VC.val at hcell
   have hcn := hok.1
   have hcm := hok.2.1
   have q0 := fun i => hX.cell i
   by_cases hce : c.n = h
   ·have hcei : ((c.n : Int) != h) = false := by rw [hce]; simp
    have HCE := Lib.hid hce; have HCL := Lib.hid hcl; clear hce hcl
    have hct := fun wx (hX : Blk wx w.heap.size 24 #[.int .i64 W, .slice (some ⟨b, off, none⟩) n cap]) (hB : Below w.heap.size w wx) => contains_vl 127 (.pointer (some ⟨w.heap.size, 0, none⟩)) (fun l => !vlB W l) c.A c.n c.cap c.ls wx (by omega) ((okB hok hB).2.2.2) (fun _ _ => rfl) (Lib.hid fun l hl wx hx => badLine_any W _ n cap l w.heap.size wx hW.1 hW.2 (hX.below hx hX.lt) ((((okB hok hB).2.2.1 l hl).below hx).more hx.size))
    simp only [any_bad] at hct
    cases hbad : c.ls.all (vlB W)
    ·simp only [hbad] at hct
     have HCT := Lib.hid hct; have HBAD := Lib.hid hbad; clear hbad hct
     go_wp2_with (first
       | (go_at_call 126; refine (HLC.out _ hB).mono ?_; rintro e w1 ⟨rfl, hb⟩; replace hB := hB.trans (hb.mono hB.size); replace hX := hX.below hb hX.lt; clear q0; have q0 := fun i => hX.cell i)
       | (go_at_call 128; refine (HCT.out _ hX hB).mono ?_; rintro e w2 ⟨rfl, hb⟩; replace hB := hB.trans (hb.mono hB.size)))
     go_ret
     refine ⟨ret_bool ?_, hB⟩
     have : restB W h cs = false := by
      unfold restB
      rw [Bool.eq_false_iff]
      intro h9
      have := List.all_eq_true.1 h9 c HIN.out
      rw [HBAD.out, Bool.and_false] at this
      cases this
     rw [this]
     simp
    ·simp only [hbad] at hct
     have HCT := Lib.hid hct; have HBAD := Lib.hid hbad; clear hbad hct
     go_wp2_with (first
       | (go_at_call 126; refine (HLC.out _ hB).mono ?_; rintro e w1 ⟨rfl, hb⟩; replace hB := hB.trans (hb.mono hB.size); replace hX := hX.below hb hX.lt; clear q0; have q0 := fun i => hX.cell i)
       | (go_at_call 128; refine (HCT.out _ hX hB).mono ?_; rintro e w2 ⟨rfl, hb⟩; replace hB := hB.trans (hb.mono hB.size); replace hX := hX.below hb hX.lt))
     go_roundg (n - (k + 1))
     case measure => rw [HG.out]; omega
     case rel => exact ⟨k + 1, rfl, by omega, by go_num, Lib.hid (by rw [HTK.out]; unfold restB; rw [List.all_append, show (cs.take k).all (fun c => c.ls.length == h && c.ls.all (vlB W)) = true from hall.out]; simp [HBAD.out, HCL.out, HCE.out]), hX, hB⟩
   ·have hcei : ((c.n : Int) != h) = true := by rw [bne_iff_ne]; omega
    have hr0 : restB W h cs = false := by
     unfold restB
     rw [Bool.eq_false_iff]
     intro h9
     have := List.all_eq_true.1 h9 c HIN.out
     rw [Bool.and_eq_true, beq_iff_eq] at this
     omega
    have HR0 := Lib.hid hr0; clear hr0
    go_wp2_with (go_at_call 126; refine (HLC.out _ hB).mono ?_; rintro e w1 ⟨rfl, hb⟩; replace hB := hB.trans (hb.mono hB.size))
    go_ret
    refine ⟨ret_bool ?_, hB⟩
    rw [HR0.out]
    simp
  ·have hge : ¬ (k : Int) < n := by omega
   have hr1 : restB W h cs = true := by
    have h9 := hall.out
    rwa [List.take_of_length_le (by have := HLEN.out; omega)] at h9
   have HR1 := Lib.hid hr1; clear hr1
   go_wp2_with fail
   go_ret
   refine ⟨ret_bool ?_, hB⟩
   rw [HR1.out]
end
section
open Go.RowKit Go.Lib
theorem refLine_any (W : Int) (BA : Option Addr) (bn bc : Nat) (A : Option Addr) (n cap : Nat) (ws : List Int) (w : World) (h1 : -1000 ≤ W) (h2 : W ≤ 1000) (hn : n ≤ maxLen) (hr : Rd w w.heap.size 1 A n (ws.map (Value.int .i64))) :
  Calls Tryz.prog 28 #[.agg #[.int .i64 W, .slice BA bn bc], .slice A n cap] w fun e w' => e = .returned (.bool (lnB W ws)) ∧ Below w.heap.size w w' := by
 have hlen : ws.length = n := by simpa using hr.len
 have hB : Below w.heap.size w (w.alloc (.cells #[.int .i64 W, .slice BA bn bc] 24)) := (Below.refl _ w).alloc (Nat.le_refl _) _
 have hX := Blk.new w 24 #[.int .i64 W, .slice BA bn bc]
 have he : lnB W ws = (decide (n ≤ 4) && ws.all fun x => inB x 0 (W - 1)) := by unfold lnB; rw [hlen]
 rw [he]
 have HL := Lib.hid hlen; clear hlen he
 unfold maxLen at hn
 go_enter Tryz.func28, Tryz.ntmps28
 go_wp2_with fail
 go_loopg [5] n (fun g i wr => ∃ k : Nat, g = n - k ∧ k ≤ n ∧ i = .int .i64 k ∧ Hid ((ws.take k).all (fun x => inB x 0 (W - 1)) = true) ∧ Blk wr w.heap.size 24 #[.int .i64 W, .slice BA bn bc] ∧ Below w.heap.size w wr)
 case atStart => exact ⟨0, rfl, Nat.zero_le _, rfl, Lib.hid rfl, hX, hB⟩
 case round =>
  clear hX hB
  obtain ⟨k, hg, hk, rfl, hall, hX, hB⟩ := hrel
  have HG := Lib.hid hg; clear hg
  rename World => wr
  by_cases hlt : k < n
  ·have hlti : (k : Int) < n := by omega
   obtain ⟨b, off, hz, rfl, hb, hcell⟩ := (hr.below hB).atm hlt
   have htk : ws.take (k + 1) = ws.take k ++ [ws[k]] := List.take_succ_eq_append_getElem hz
   have hin := List.getElem_mem hz
   generalize ws[k] = x at *
   have HTK := Lib.hid htk; have HIN := Lib.hid hin; clear htk hz hin
   have e0 := fun p : Blw wr.heap.size wr => blw_cell (a := ⟨b, off + k, none⟩) (Nat.lt_of_lt_of_le hb hB.size) hcell p
   have hbx := fun p i => blw_blk hX p i
   clear hcell
   have hwr : IntKind.i64.wrap (W - 1) = W - 1 := IntWalk.i64_in _ (by omega)
   go_upto_region 4 with fail
   cases hbad : inB x 0 (W - 1)
   ·have hin2 := fun wx => in_any x 0 (W - 1) wx
    simp only [hbad] at hin2
    have HI2 := Lib.hid hin2; have HBAD := Lib.hid hbad; clear hbad hin2
    refine wp_region_blw (by kernel_rfl) (by kernel_rfl) ?_
    repeat (go_big_quiet_step ((go_at_call 85; exact Calls.blw_of_same _ (HI2.out _))))
    refine wpQuiet_nil ?_
    rintro W3 ⟨⟨_, hb3⟩, rfl⟩
    clear e0 hbx hwr
    go_wp2_with fail
    go_ret
    refine ⟨ret_bool ?_, hB.trans (hb3.mono hB.size)⟩
    have : (ws.all fun x => inB x 0 (W - 1)) = false := by
     rw [Bool.eq_false_iff]
     intro h9
     have := List.all_eq_true.1 h9 x HIN.out
     rw [HBAD.out] at this
     cases this
    rw [this, Bool.and_false]
   ·have hin2 := fun wx => in_any x 0 (W - 1) wx
    simp only [hbad] at hin2
    have HI2 := Lib.hid hin2; have HBAD := Lib.hid hbad; clear hbad hin2
    refine wp_region_blw (by kernel_rfl) (by kernel_rfl) ?_
    repeat (go_big_quiet_step ((go_at_call 85; exact Calls.blw_of_same _ (HI2.out _))))
    refine wpQuiet_nil ?_
    rintro W3 ⟨⟨_, hb3⟩, rfl⟩
    clear e0 hbx hwr
    go_wp2_with fail
    go_roundg (n - (k + 1))
    case measure => rw [HG.out]; omega
    case rel => exact ⟨k + 1, rfl, by omega, by go_num, Lib.hid (by rw [HTK.out, List.all_append, hall.out]; simp [HBAD.out]), hX.below hb3 hX.lt, hB.trans (hb3.mono hB.size)⟩
  ·have hge : ¬ (k : Int) < n := by omega
   have h9 : (ws.all fun x => inB x 0 (W - 1)) = true := by
    have h9 := hall.out
    rwa [List.take_of_length_le (by have := HL.out; omega)] at h9
   have H9 := Lib.hid h9; clear h9
   by_cases h4 : n ≤ 4
   ·have h4i : (n : Int) ≤ 4 := by omega
    go_wp2_with fail
    go_ret
    exact ⟨ret_bool (by simp [H9.out, h4]), hB⟩
   ·have h4i : ¬ (n : Int) ≤ 4 := by omega
    go_wp2_with fail
    go_ret
    exact ⟨ret_bool (by simp [H9.out, h4]), hB⟩
theorem hasLine_any (W l : Int) (A : Option Addr) (n cap : Nat) (cs : List VC) (w : World) (hn : 1 ≤ n) (hr : Rd w w.heap.size 1 A n (cs.map VC.val)) (hc : ∀ c ∈ cs, c.ok w w.heap.size) (hh : headN cs ≤ 100) :
  Calls Tryz.prog 90 #[.agg #[.int .i64 W, .slice A n cap], .int .i64 l] w fun e w' => e = .returned (.bool (inB l 0 (headN cs - 1))) ∧ Below w.heap.size w w' := by
 have hB : Below w.heap.size w (w.alloc (.cells #[.int .i64 W, .slice A n cap] 24)) := (Below.refl _ w).alloc (Nat.le_refl _) _
 have hX := Blk.new w 24 #[.int .i64 W, .slice A n cap]
 have q0 := fun i => hX.cell i
 have hlc := lineCount_any W A n cap cs _ hn (rdB hr hB) (fun c h => okB (hc c h) hB)
 have HLC := Lib.hid hlc; clear hlc
 generalize headN cs = h at *
 go_enter Tryz.func90, Tryz.ntmps90
 go_wp2_with (first
   | (go_at_call 126; refine HLC.out.mono ?_; rintro e w1 ⟨rfl, hb⟩; replace hB := hB.trans (hb.mono hB.size))
   | (go_at_call 125; refine (within_any _ _ _ _).mono ?_; rintro e w1 ⟨rfl, rfl⟩))
 go_ret
 exact ⟨rfl, hB⟩
theorem hasCopy_any (W l : Int) (A : Option Addr) (n cap : Nat) (w : World) (hn : n ≤ 1000) :
  Calls Tryz.prog 99 #[.agg #[.int .i64 W, .slice A n cap], .int .i64 l] w fun e w' => e = .returned (.bool (inB l 0 (n - 1))) ∧ Below w.heap.size w w' := by
 go_enter Tryz.func99, Tryz.ntmps99
 go_wp2_with (go_at_call 125; refine (within_any _ _ _ _).mono ?_; rintro e w1 ⟨rfl, rfl⟩)
 go_ret
 exact ⟨rfl, (Below.refl _ w).alloc (Nat.le_refl _) _⟩
end
section
open Go.RowKit Go.Lib
theorem info3 : (Tryz.prog.info? 3).map (fun i => (i.zero, i.size, i.bytes)) = some (some (.int .i64 0), 1, 8) := by kernel_rfl
theorem info5 : (Tryz.prog.info? 5).map (fun i => (i.zero, i.size, i.bytes)) = some (some (.int .u8 0), 1, 1) := by kernel_rfl
theorem info25 : (Tryz.prog.info? 25).map (fun i => (i.zero, i.size, i.bytes)) = some (some (.slice none 0 0), 1, 24) := by kernel_rfl
def lbL (ws : List Int) : List UInt8 := ws.map fun x => UInt8.ofNat x.toNat
def lbS (ws : List Int) : ByteArray := ⟨(lbL ws).toArray⟩
def byteV (b : UInt8) : Value := .int .u8 (b.toNat : Int)
theorem lineOf_any (A : Option Addr) (n cap : Nat) (ws : List Int) (w : World) (hn : n ≤ 100000) (hw : ∀ x ∈ ws, 0 ≤ x ∧ x ≤ 255) (hr : Rd w w.heap.size 1 A n (ws.map (Value.int .i64))) :
  Calls Tryz.prog 84 #[.slice A n cap] w fun e w' => e = .returned (.string (lbS ws)) ∧ Below w.heap.size w w' := by
 obtain ⟨i5, hi, hz0, hz1', hz2'⟩ := info_parts info5
 have hlen : ws.length = n := by simpa using hr.len
 have HL := Lib.hid hlen; have HW := Lib.hid hw; clear hlen hw
 go_enter Tryz.func84, Tryz.ntmps84
 go_wp2_with fail
 go_loopg [3, 8] n (fun g v i wr => ∃ (k : Nat) (v0 : Value), g = n - k ∧ k ≤ n ∧ v = v0 ∧ i = .int .i64 k ∧ wr.ownsRow w.heap.size 5 1 v0 k ((lbL (ws.take k)).map byteV) ∧ Hid (k = 0 → v0 = .slice none 0 0) ∧ Below w.heap.size w wr)
 case atStart => exact ⟨0, _, rfl, Nat.zero_le _, rfl, rfl, World.ownsRow_nil _ _ _ _, Lib.hid (fun _ => rfl), Below.refl _ _⟩
 case round =>
  obtain ⟨k, v0, hg, hk, rfl, rfl, hown, hnil, hB⟩ := hrel
  obtain ⟨va, vc, rfl⟩ := own_slice hown
  have HG := Lib.hid hg; clear hg
  by_cases hlt : k < n
  ·obtain ⟨b, off, hz, rfl, hb, hcell⟩ := (hr.below hB).atm hlt
   have htk : ws.take (k + 1) = ws.take k ++ [ws[k]] := List.take_succ_eq_append_getElem hz
   have hx := HW.out _ (List.getElem_mem hz)
   generalize ws[k] = x at *
   obtain ⟨q, rfl⟩ : ∃ q : Nat, x = q := ⟨x.toNat, by omega⟩
   have hub : ((UInt8.ofNat q).toNat : Int) = q := by rw [UInt8.toNat_ofNat']; omega
   have hap : (lbL (ws.take (k + 1))).map byteV = (lbL (ws.take k)).map byteV ++ [.int .u8 q] := by
    rw [htk]; unfold lbL; rw [List.map_append, List.map_append, List.map_cons, List.map_cons, List.map_nil, List.map_nil]; unfold byteV; rw [Int.toNat_natCast, hub]
   have HAP := Lib.hid hap; clear hap htk hub hz
   generalize (lbL (ws.take k)).map byteV = ys at *
   have hw8 : IntKind.u8.wrap (q : Int) = q := by unfold IntKind.wrap; simp [IntKind.bits, IntKind.signed]; omega
   go_wp2_with (at_builtin; refine wpList_append_any _ rfl _ _ 111 rfl w.heap.size 5 i5 (.int .u8 0) 1 1 Tryz.underlying111 hi hz0 hz1' hz2' rfl (by decide) (.slice va k vc) k ys rfl (hown.alloc _) (wr.heap.size + 1) (some ⟨wr.heap.size, 0, none⟩) 1 1 [.int .u8 q] rfl (Rd.blkN (Blk.new wr 5 #[.int .u8 q]) rfl (Nat.lt_succ_self _)).reads (by simp [Value.oneCell']) (by unfold maxLen; omega) (by omega) (by have := hB.size; simp only [World.size_alloc]; omega) (fun v' w' hown' hgrow hob => ?_))
   have hB2 := (hB.alloc hB.size (.cells #[.int .u8 q] 5)).grown hgrow (by have := hB.size; simp only [World.size_alloc]; omega) (fun g hg => ((hown.alloc (.cells #[.int .u8 q] 5)).lt g hg).1)
   go_roundg (n - (k + 1))
   case measure => rw [HG.out]; omega
   case rel => exact ⟨k + 1, v', rfl, by omega, rfl, by go_num, by rw [HAP.out]; exact hown', Lib.hid (fun h => absurd h (by omega)), hB2⟩
  ·obtain rfl : k = n := by omega
   have hge : ¬ (k : Int) < k := by omega
   have htk : ws.take k = ws := List.take_of_length_le (by have := HL.out; omega)
   rw [htk] at hown
   clear htk
   by_cases h0 : k = 0
   ·have hws : ws = [] := List.length_eq_zero_iff.1 (by have := HL.out; omega)
    have hv := hnil.out h0
    cases hv
    have hcv : ∀ w : World, (convert 111 121 (.slice none 0 0)).run Tryz.prog w = .ok (.string ⟨#[]⟩) w := fun w => by kernel_rfl
    have hs0 : lbS ws = ⟨#[]⟩ := by rw [hws]; rfl
    have HS := Lib.hid hs0
    clear hws hs0 h0
    go_wp2_with fail
    go_ret
    exact ⟨by rw [HS.out]; rfl, hB⟩
   ·obtain ⟨g, cp, e, hg1, hg2⟩ := hown.form (by omega)
    cases e
    have hll : (lbL ws).length = k := by unfold lbL; rw [List.length_map]; exact HL.out
    have hcv := run_convert_bytes_back (P := Tryz.prog) wr 111 121 5 ⟨g, 0, none⟩ vc (lbL ws) Tryz.underlying111 Tryz.underlying5 Tryz.underlying121 (fun j hj => by
      obtain ⟨_, _, hz, e, _, hcc⟩ := (Rd.of_own hown).atm (show j < k by omega)
      cases e
      rw [Nat.zero_add] at hcc
      have ea : (⟨g, 0, none⟩ : Addr).add j = ⟨g, j, none⟩ := by by_cases h : j = 0 <;> simp [Addr.add, h]
      rw [ea]
      exact hcc)
    rw [hll] at hcv
    have hfin : (⟨(lbL ws).toArray⟩ : ByteArray) = lbS ws := rfl
    rw [hfin] at hcv
    clear hfin hll
    obtain ⟨s, hs⟩ : ∃ s, s = lbS ws := ⟨_, rfl⟩
    rw [← hs] at hcv
    have HS := Lib.hid hs; clear hs
    go_wp2_with fail
    go_ret
    exact ⟨by rw [← HS.out]; rfl, hB⟩
def NilIf (n : Nat) (v : Value) : Prop := n = 0 → v = .slice none 0 0
def nwL (s : ByteArray) : List Int := s.data.toList.map fun b => (b.toNat : Int)
theorem words_any (s : ByteArray) (w : World) (hs : s.size ≤ 100000) :
  Calls Tryz.prog 94 #[.string s] w fun e w' => ∃ v, e = .returned v ∧ w'.ownsRow w.heap.size 3 1 v s.size ((nwL s).map (Value.int .i64)) ∧ NilIf s.size v ∧ Below w.heap.size w w' := by
 obtain ⟨i3, hi, hz0, hz1', hz2'⟩ := info_parts info3
 have hsl : (nwL s).length = s.size := by unfold nwL; rw [List.length_map]; rfl
 have HSL := Lib.hid hsl; clear hsl
 go_enter Tryz.func94, Tryz.ntmps94
 go_wp2_with fail
 go_loopg [3, 7] s.size (fun g v i wr => ∃ (k : Nat) (v0 : Value), g = s.size - k ∧ k ≤ s.size ∧ v = v0 ∧ i = .int .i64 k ∧ wr.ownsRow w.heap.size 3 1 v0 k (((nwL s).take k).map (Value.int .i64)) ∧ Hid (k = 0 → v0 = .slice none 0 0) ∧ Below w.heap.size w wr)
 case atStart => exact ⟨0, _, rfl, Nat.zero_le _, rfl, rfl, World.ownsRow_nil _ _ _ _, Lib.hid (fun _ => rfl), Below.refl _ _⟩
 case round =>
  obtain ⟨k, v0, hg, hk, rfl, rfl, hown, hnil, hB⟩ := hrel
  obtain ⟨va, vc, rfl⟩ := own_slice hown
  have HG := Lib.hid hg; clear hg
  by_cases hlt : k < s.size
  ·have hlti : (k : Int) < s.size := by omega
   have hkl : k < (nwL s).length := by rw [HSL.out]; exact hlt
   have htk : (nwL s).take (k + 1) = (nwL s).take k ++ [(nwL s)[k]] := List.take_succ_eq_append_getElem hkl
   have hat : (nwL s)[k] = ((s[k]'hlt).toNat : Int) := by simp [nwL]; rfl
   rw [hat] at htk
   have hap : ((nwL s).take (k + 1)).map (Value.int .i64) = ((nwL s).take k).map (Value.int .i64) ++ [.int .i64 ((s[k]'hlt).toNat : Int)] := by rw [htk, List.map_append]; rfl
   have HAP := Lib.hid hap; clear hap htk hat
   have hub := (s[k]'hlt).toNat_lt
   have hwi : IntKind.i64.wrap ((s[k]'hlt).toNat : Int) = ((s[k]'hlt).toNat : Int) := IntWalk.i64_in _ (by omega)
   generalize ((nwL s).take k).map (Value.int .i64) = ys at *
   go_wp2_with (at_builtin; refine wpList_append_any _ rfl _ _ 25 rfl w.heap.size 3 i3 (.int .i64 0) 1 8 Tryz.underlying25 hi hz0 hz1' hz2' rfl (by decide) (.slice va k vc) k ys rfl (hown.alloc _) (wr.heap.size + 1) (some ⟨wr.heap.size, 0, none⟩) 1 1 [.int .i64 ((s[k]'hlt).toNat : Int)] rfl (Rd.blkN (Blk.new wr 3 #[.int .i64 ((s[k]'hlt).toNat : Int)]) rfl (Nat.lt_succ_self _)).reads (by simp [Value.oneCell']) (by unfold maxLen; omega) (by omega) (by have := hB.size; simp only [World.size_alloc]; omega) (fun v' w' hown' hgrow hob => ?_))
   have hB2 := (hB.alloc hB.size (.cells #[.int .i64 ((s[k]'hlt).toNat : Int)] 3)).grown hgrow (by have := hB.size; simp only [World.size_alloc]; omega) (fun g hg => ((hown.alloc (.cells #[.int .i64 ((s[k]'hlt).toNat : Int)] 3)).lt g hg).1)
   go_roundg (s.size - (k + 1))
   case measure => rw [HG.out]; omega
   case rel => exact ⟨k + 1, v', rfl, by omega, rfl, by go_num, by rw [HAP.out]; exact hown', Lib.hid (fun h => absurd h (by omega)), hB2⟩
  ·obtain rfl : k = s.size := by omega
   have hge : ¬ (s.size : Int) < s.size := by omega
   have htk : (nwL s).take s.size = nwL s := List.take_of_length_le (by rw [HSL.out]; exact Nat.le_refl _)
   rw [htk] at hown
   clear htk
   go_wp2_with fail
   go_ret
   exact ⟨_, rfl, hown, hnil.out, hB⟩
def sumI (ws : List Int) : Int := ws.foldl (· + ·) 0
theorem sumI_snoc (ws : List Int) (x : Int) : sumI (ws ++ [x]) = sumI ws + x := by unfold sumI; rw [List.foldl_append]; rfl
theorem sum_any (A : Option Addr) (n cap : Nat) (ws : List Int) (w : World) (hn : n ≤ 100000) (hw : ∀ x ∈ ws, 0 ≤ x ∧ x ≤ 1000000) (hr : Rd w w.heap.size 1 A n (ws.map (Value.int .i64))) :
  Calls Tryz.prog 98 #[.slice A n cap] w fun e w' => e = .returned (.int .i64 (sumI ws)) ∧ w = w' := by
 have hlen : ws.length = n := by simpa using hr.len
 have HL := Lib.hid hlen; have HW := Lib.hid hw; clear hlen hw
 go_enter Tryz.func98, Tryz.ntmps98
 go_wp2_with fail
 go_loop [3, 8] (fun t i => ∃ (k : Nat) (z : Int), k ≤ n ∧ i = .int .i64 k ∧ t = .int .i64 z ∧ Hid (z = sumI (ws.take k)) ∧ 0 ≤ z ∧ z ≤ k * 1000000) (fun _ i => n - (Go.RowKit.intOf i).toNat)
 case atStart => exact ⟨0, 0, Nat.zero_le _, rfl, rfl, Lib.hid rfl, by omega, by omega⟩
 case round =>
  obtain ⟨k, z, hk, rfl, rfl, hz, h0, h1⟩ := hrel
  by_cases hlt : k < n
  ·obtain ⟨b, off, hzl, rfl, hb, hcell⟩ := hr.atm hlt
   have htk : ws.take (k + 1) = ws.take k ++ [ws[k]] := List.take_succ_eq_append_getElem hzl
   have hx := HW.out _ (List.getElem_mem hzl)
   generalize ws[k] = x at *
   have HTK := Lib.hid htk; clear htk hzl
   go_wp2_with fail
   go_round
   case rel => exact ⟨k + 1, z + x, by omega, by go_num, rfl, Lib.hid (by rw [HTK.out, sumI_snoc, ← hz.out]), by omega, by omega⟩
   case measure => simp [Go.RowKit.intOf]; omega
  ·have hge : ¬ (k : Int) < n := by omega
   have he : z = sumI ws := by
    have h := hz.out
    rwa [List.take_of_length_le (by have := HL.out; omega)] at h
   have HE := Lib.hid he; clear he
   go_wp2_with fail
   go_ret
   exact ⟨by rw [← HE.out]; rfl, rfl⟩
end
section
open Go.RowKit Go.Lib
def Env (m : Int) (w : World) : Prop := w.cell? ⟨0, 0, none⟩ = some (.int .i64 m) ∧ TabIs Tryz.prog w "internal/strconv.uint64pow10" .u64 pow10Tab
theorem Env.below {m : Int} {w w' : World} (h : Env m w) (hb : Below w.heap.size w w') : Env m w' :=
 ⟨(hb.cell (p := ⟨0, 0, none⟩) (block_lt_of_cell h.1)).trans h.1, var_below h.2 hb⟩
theorem itoa_any (n : Nat) (hn : n < 1000000) (m : Int) (w : World) (h : Env m w) : Calls Tryz.prog 191 #[.int .i64 n] w fun e w' => e = .returned (.string ⟨(decDigits n).toArray⟩) ∧ Below w.heap.size w w' := by
 refine (Tryz.strconv_Itoa n (by omega) (by omega) w h.2).mono ?_
 rintro e w' ⟨rfl, k, os, rfl⟩
 exact ⟨by rw [itoa_nonneg], below_ahead _ _ _⟩
def wBook : ByteArray := ⟨#[98, 111, 111, 107]⟩
def wCopy : ByteArray := ⟨#[99, 111, 112, 121]⟩
def wLine : ByteArray := ⟨#[108, 105, 110, 101]⟩
def wLost : ByteArray := ⟨#[108, 111, 115, 116]⟩
theorem word_of (k : Nat) (s : ByteArray) (h : ∀ w, (Instr.index 274 (.agg #[.string ⟨#[98, 111, 111, 107]⟩, .string ⟨#[99, 111, 112, 121]⟩, .string ⟨#[108, 105, 110, 101]⟩, .string ⟨#[108, 111, 115, 116]⟩, .string ⟨#[101, 110, 100]⟩]) (.int .i64 k)).run Tryz.prog w = .ok (.string s) w) (w : World) : Calls Tryz.prog 190 #[.int .i64 k] w fun e w' => e = .returned (.string s) ∧ w = w' := by
 go_enter Tryz.func190, Tryz.ntmps190
 go_wp2
 go_ret
 exact ⟨rfl, rfl⟩
theorem word_book (w : World) : Calls Tryz.prog 190 #[.int .i64 0] w fun e w' => e = .returned (.string wBook) ∧ w = w' := word_of 0 wBook (fun _ => by kernel_rfl) w
theorem word_copy (w : World) : Calls Tryz.prog 190 #[.int .i64 1] w fun e w' => e = .returned (.string wCopy) ∧ w = w' := word_of 1 wCopy (fun _ => by kernel_rfl) w
theorem word_line (w : World) : Calls Tryz.prog 190 #[.int .i64 2] w fun e w' => e = .returned (.string wLine) ∧ w = w' := word_of 2 wLine (fun _ => by kernel_rfl) w
theorem word_lost (w : World) : Calls Tryz.prog 190 #[.int .i64 3] w fun e w' => e = .returned (.string wLost) ∧ w = w' := word_of 3 wLost (fun _ => by kernel_rfl) w
theorem word_end (w : World) : Calls Tryz.prog 190 #[.int .i64 4] w fun e w' => e = .returned (.string wEnd) ∧ w = w' := word_of 4 wEnd (fun _ => by kernel_rfl) w
theorem first_book (v : Value) (w : World) : Calls Tryz.prog 256 #[.agg #[v]] w fun e w' => e = .returned (.int .i64 0) ∧ Below w.heap.size w w' := by
 go_enter Tryz.func256, Tryz.ntmps256
 go_wp2
 go_ret
 exact ⟨rfl, (Below.refl _ w).alloc (Nat.le_refl _) _⟩
theorem first_copy (w : World) : Calls Tryz.prog 257 #[.agg #[]] w fun e w' => e = .returned (.int .i64 1) ∧ Below w.heap.size w w' := by
 go_enter Tryz.func257, Tryz.ntmps257
 go_wp2
 go_ret
 exact ⟨rfl, (Below.refl _ w).alloc (Nat.le_refl _) _⟩
theorem first_lost (w : World) : Calls Tryz.prog 258 #[.agg #[]] w fun e w' => e = .returned (.int .i64 3) ∧ Below w.heap.size w w' := by
 go_enter Tryz.func258, Tryz.ntmps258
 go_wp2
 go_ret
 exact ⟨rfl, (Below.refl _ w).alloc (Nat.le_refl _) _⟩
theorem first_line (v : Value) (w : World) : Calls Tryz.prog 259 #[.agg #[v]] w fun e w' => e = .returned (.int .i64 2) ∧ Below w.heap.size w w' := by
 go_enter Tryz.func259, Tryz.ntmps259
 go_wp2
 go_ret
 exact ⟨rfl, (Below.refl _ w).alloc (Nat.le_refl _) _⟩
theorem first_end (v : Value) (w : World) : Calls Tryz.prog 260 #[.agg #[v]] w fun e w' => e = .returned (.int .i64 4) ∧ Below w.heap.size w w' := by
 go_enter Tryz.func260, Tryz.ntmps260
 go_wp2
 go_ret
 exact ⟨rfl, (Below.refl _ w).alloc (Nat.le_refl _) _⟩
theorem insist_ok (w : World) : Calls Tryz.prog 163 #[.bool true] w fun e w' => e = .returned (.tuple #[]) ∧ w = w' := by
 go_enter Tryz.func163, Tryz.ntmps163
 go_wp2
 exact ⟨rfl, .tuple #[], by simp [results, Tryz.results163, go_sem], rfl, rfl⟩
theorem jn_any (A : Option Addr) (n cap : Nat) (xs : List ByteArray) (sep : ByteArray) (w : World) (hn : 1 ≤ n) (hn2 : n ≤ 1000) (hcap : n ≤ cap) (hs : ∀ x ∈ xs, x.size ≤ 100000) (hsep : sep.size ≤ 10) (hr : Rd w w.heap.size 1 A n (xs.map Value.string)) :
  Calls Tryz.prog 159 #[.slice A n cap, .string sep] w fun e w' => e = .returned (.string (jnS xs sep)) ∧ Below w.heap.size w w' := by
 have hlen := hr.1
 rw [List.length_map, Nat.mul_one] at hlen
 obtain ⟨b, off, rfl, hb, hc⟩ := hr.2 (by omega)
 subst hlen
 refine Tryz.strings_Join b off cap xs sep w (fun j x hj => hc j _ (by rw [List.getElem?_map, hj]; rfl)) hb (by omega) hcap ?_
 have h1 := join_len sep.data.toList 100000 (xs.map (·.data.toList)) (fun y hy => by obtain ⟨x, hx, rfl⟩ := List.mem_map.1 hy; rw [size_list]; exact hs x hx)
 rw [List.length_map, size_list] at h1
 have h2 : xs.length * (100000 + sep.size) ≤ 1000 * 100010 := Nat.mul_le_mul hn2 (by omega)
 omega
theorem info9 : (Tryz.prog.info? 9).map (fun i => (i.zero, i.size, i.bytes)) = some (some (.string ByteArray.empty), 1, 16) := by kernel_rfl
end
end Go.Proofs.YtekmnelpkogppaaGreatDoor
