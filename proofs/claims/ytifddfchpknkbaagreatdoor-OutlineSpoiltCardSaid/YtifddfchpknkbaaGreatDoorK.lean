import Derived.Test.YtifddfchpknkbaaGreatDoorProg
import Derived.WalkKit
import Derived.WalkSpells
import Derived.WalkLawsBesides
import Derived.BigQuiet
import Derived.Deep.QuietTactic
import Derived.Deep.DeepFit
import Derived.Deep.DeepMust
import Derived.Maps.AppendAt
import Derived.Deep.AppendLies
import Derived.RegionTactic
import Derived.OwnWalk
import Derived.Lib.Hide
import Derived.Laws.EntriesVeiled
import Derived.ProofKit
import Derived.Carry
import Derived.HandedShaped
import Derived.Deep.Strs
import Derived.Deep.Fields
import Derived.OpenShut
import Derived.Maps.OwnOps
import Derived.Maps.OwnSet
import Derived.LoopTactic
import Derived.WalkMore
import Derived.Deep.LoopGhost
import Derived.Laws.MakeOwn
import Derived.OrdersHeld
import Derived.RangeFuncNested
set_option linter.unusedVariables false
set_option linter.unusedSimpArgs false
namespace Go.Proofs.YtifddfchpknkbaaGreatDoor
open Go.RowKit
theorem block_of_add (a : Addr) (n : Nat) : (a.add n).block = a.block := by unfold Addr.add; split <;> rfl
theorem add_of_add (a : Addr) (i j : Nat) : (a.add i).add j = a.add (i + j) := by
  unfold Addr.add
  by_cases hi : i = 0 <;> by_cases hj : j = 0 <;> simp [hi, hj, Nat.add_assoc]

def Reads (w : World) (B size : Nat) (A : Option Addr) (n : Nat) (xs : List Value) : Prop :=
  xs.length = n * size ∧ (0 < n → ∃ ad, A = some ad ∧ ad.block < B ∧ ∀ j u, xs[j]? = some u → w.cell? (ad.add j) = some u)

section
variable {w w' : World} {B B' size n : Nat} {A : Option Addr} {xs : List Value}
theorem Reads.none_ : Reads w B size A 0 [] := ⟨by simp, fun h => absurd h (by omega)⟩
theorem Reads.at_ {k : Nat} (h : Reads w B 1 A n xs) (hk : k < n) : ∃ ad u, A = some ad ∧ ad.block < B ∧ xs[k]? = some u ∧ w.cell? (ad.add k) = some u := by
  obtain ⟨ad, e, hb, hc⟩ := h.2 (by omega)
  have hl : k < xs.length := by have := h.1; omega
  exact ⟨ad, xs[k], e, hb, List.getElem?_eq_getElem hl, hc k _ (List.getElem?_eq_getElem hl)⟩
theorem Reads.keep (h : Reads w B size A n xs) (hk : ∀ p : Addr, p.block < B → w'.cell? p = w.cell? p) : Reads w' B size A n xs :=
  ⟨h.1, fun hn => by
    obtain ⟨ad, e, hb, hc⟩ := h.2 hn
    exact ⟨ad, e, hb, fun j u hu => (hk _ (by rw [block_of_add]; exact hb)).trans (hc j u hu)⟩⟩
theorem Reads.more (h : Reads w B size A n xs) (hB : B ≤ B') : Reads w B' size A n xs :=
  ⟨h.1, fun hn => by
    obtain ⟨ad, e, hb, hc⟩ := h.2 hn
    exact ⟨ad, e, by omega, hc⟩⟩
theorem Reads.below (h : Reads w B size A n xs) (hb : Below B w w') : Reads w' B size A n xs := h.keep fun _ hp => hb.cell hp
theorem Reads.drew (h : Reads w B size A n xs) : Reads w.drew B size A n xs := h
theorem Reads.drewN (h : Reads w B size A n xs) (k : Nat) : Reads (w.drewN k) B size A n xs := h
theorem Reads.alloc (h : Reads w B size A n xs) (hB : B ≤ w.heap.size) (o : Obj) : Reads (w.alloc o) B size A n xs := h.keep fun p hp => World.cell?_alloc_lt w o p (by omega)
theorem Reads.setCell (h : Reads w B size A n xs) {p : Addr} (hB : B ≤ p.block) (u : Value) : Reads (w.setCell p u) B size A n xs :=
  h.keep fun q hq => World.cell?_setCell_other w p q u (fun e => by subst e; omega)
theorem Reads.grown (h : Reads w B size A n xs) {row : Option Nat} (hg : w.grownBy w' row) (hB : B ≤ w.heap.size) (hr : ∀ g, row = some g → B ≤ g) : Reads w' B size A n xs :=
  h.keep fun p hp => World.cell?_of_block (hg.block p.block (by omega) (fun e => by have := hr _ e.symm; omega))
theorem Reads.cut (h : Reads w B size A n xs) {k cap : Nat} (hk : k ≤ n) (hc : n ≤ cap) :
    Reads w B size (if cap = k then A else A.map (·.add (k * size))) (n - k) (xs.drop (k * size)) := by
  refine ⟨by rw [List.length_drop, h.1, Nat.sub_mul], fun hn => ?_⟩
  obtain ⟨ad, rfl, hb, hcell⟩ := h.2 (by omega)
  rw [if_neg (by omega)]
  refine ⟨ad.add (k * size), rfl, by rw [block_of_add]; exact hb, fun j u hu => ?_⟩
  rw [add_of_add]
  exact hcell _ u (by rw [← hu, List.getElem?_drop])
theorem Reads.of_own {base : Nat} {e : TypeId} {c : Nat} (h : w.ownsRow base e size (.slice A n c) n xs) : Reads w w.heap.size size A n xs := by
  refine ⟨h.1, fun hn => ?_⟩
  obtain ⟨g, cap, hv, _, hlt⟩ := h.form hn
  have hA : A = some ⟨g, 0, none⟩ := by injection hv
  subst hA
  exact ⟨_, rfl, hlt, h.cells (g := g) rfl⟩
end
def Blk (w : World) (g : Nat) (t : TypeId) (cs : Array Value) : Prop := w.heap[g]? = some (.cells cs t (0, 0))

section
variable {w w' : World} {g : Nat} {t : TypeId} {cs : Array Value}
theorem Blk.lt (h : Blk w g t cs) : g < w.heap.size := by
  rcases Nat.lt_or_ge g w.heap.size with hlt | hge
  · exact hlt
  · unfold Blk at h; rw [Array.getElem?_eq_none hge] at h; cases h
theorem Blk.cell (h : Blk w g t cs) (i : Nat) : w.cell? ⟨g, i, none⟩ = cs[i]? := cell_of_row w g i cs t (0, 0) h
theorem Blk.frozen (h : Blk w g t cs) (i : Nat) : w.frozen? ⟨g, i, none⟩ = false := by
  unfold Blk at h
  simp [World.frozen?, h]
theorem Blk.new (w : World) (t : TypeId) (cs : Array Value) : Blk (w.alloc (.cells cs t)) w.heap.size t cs := heap_alloc_new w _
theorem Blk.drew (h : Blk w g t cs) : Blk w.drew g t cs := h
theorem Blk.drewN (h : Blk w g t cs) (n : Nat) : Blk (w.drewN n) g t cs := h
theorem Blk.alloc (h : Blk w g t cs) (o : Obj) : Blk (w.alloc o) g t cs := (Below.heap_alloc w o g h.lt).trans h
theorem Blk.set_ (h : Blk w g t cs) (i : Nat) (u : Value) : Blk (w.setCell ⟨g, i, none⟩ u) g t (cs.setIfInBounds i u) := by
  unfold Blk at h ⊢
  simp [World.setCell, Array.getElem?_modify, h]
theorem Blk.far (h : Blk w g t cs) {p : Addr} (hp : g ≠ p.block) (u : Value) : Blk (w.setCell p u) g t cs := (Below.heap_setCell w p u g hp).trans h
theorem Blk.below {B : Nat} (h : Blk w g t cs) (hb : Below B w w') (hg : g < B) : Blk w' g t cs := (hb.block g hg).trans h
theorem Blk.grown {row : Option Nat} (h : Blk w g t cs) (hb : w.grownBy w' row) (hg : some g ≠ row) : Blk w' g t cs := (hb.block g h.lt hg).trans h
theorem Blk.ne_ {g' : Nat} {t' : TypeId} {cs' : Array Value} (h : Blk w g t cs) (h' : Blk w g' t' cs') (hne : t ≠ t') : g ≠ g' := by
  rintro rfl
  unfold Blk at h h'
  rw [h] at h'
  injection h' with h'
  injection h' with _ ht
  exact hne ht
theorem own_blk_ne {base : Nat} {e : TypeId} {size n : Nat} {v : Value} {xs : List Value} (h : w.ownsRow base e size v n xs) (hg : Blk w g t cs) (hne : e ≠ t) : v.ownBlock ≠ some g := by
  rcases h.2 with ⟨rfl, _⟩ | ⟨g', cap, cur, rfl, _, hh, _⟩
  · simp [Value.ownBlock]
  · intro he
    have : g' = g := by simpa [Value.ownBlock] using he
    subst this
    exact Blk.ne_ (t := e) hh hg hne rfl
end
section
variable {P : Program} (w : World)

theorem run_append_of_nil (base : Nat) (t ty e : TypeId) (i : TypeInfo) (size : Nat) (ht : P.underlying t = some (.slice e)) (hi : P.info? e = some i)
    (v : Value) (n : Nat) (xs : List Value) (hown : w.ownsRow base e size v n xs) (c : Nat) : (Builtin.append_ #[t, t] ty #[v, .slice none 0 c]).run P w = .ok v w := by
  rcases hown.2 with ⟨rfl, rfl⟩ | ⟨g, cap, cur, rfl, _, _, hnc, _⟩
  · simp [Builtin.append_, run_underlying ht, sizeOf, typeInfo, hi, Builtin.lenOf, Builtin.firstCells]
  · simp [Builtin.append_, run_underlying ht, sizeOf, typeInfo, hi, Builtin.lenOf, Builtin.firstCells, hnc, storeCells]

theorem run_append_any (base : Nat) (t ty e : TypeId) (i : TypeInfo) (z : Value) (size bytes : Nat) (ht : P.underlying t = some (.slice e)) (hi : P.info? e = some i) (hz : i.zero = some z)
    (hsize : i.size = size) (hby : i.bytes = bytes) (hzs : z.cells.size = size) (hsz : 0 < size)
    (v : Value) (n : Nat) (xs : List Value) (hown : w.ownsRow base e size v n xs)
    (B : Nat) (A : Option Addr) (m c : Nat) (news : List Value) (hr : Reads w B size A m news) (h1 : ∀ u ∈ news, u.oneCell' = true)
    (h63 : n + m ≤ maxLen) (hbytes : (n + m) * bytes ≤ 140737488355328) (hbase : base ≤ w.heap.size) :
    ∃ v' w', (Builtin.append_ #[t, t] ty #[v, .slice A m c]).run P w = .ok v' w' ∧ w'.ownsRow base e size v' (n + m) (xs ++ news) ∧ w.grownBy w' v.ownBlock ∧
      (v'.ownBlock = v.ownBlock ∨ v'.ownBlock = some w.heap.size) := by
  rcases A with _ | ad
  · have hm : m = 0 := by
      rcases Nat.eq_zero_or_pos m with h0 | h0
      · exact h0
      · obtain ⟨ad, h, _⟩ := hr.2 h0
        cases h
    subst hm
    have hn : news = [] := List.eq_nil_of_length_eq_zero (by simpa using hr.1)
    subst hn
    exact ⟨v, w, run_append_of_nil w base t ty e i size ht hi v n xs hown c, by simpa using hown, World.grownBy.refl w _, .inl rfl⟩
  · have hcells : ∀ j u, news[j]? = some u → w.cell? (ad.add j) = some u := by
      intro j u hu
      rcases Nat.eq_zero_or_pos m with h0 | h0
      · subst h0
        have hn : news = [] := List.eq_nil_of_length_eq_zero (by simpa using hr.1)
        subst hn
        simp at hu
      · obtain ⟨ad', h, _, hc⟩ := hr.2 h0
        injection h with h
        subst h
        exact hc j u hu
    obtain ⟨v', w', hrun, h2, h3, _, h5⟩ := run_append_own_at (P := P) w base t ty e i z size bytes ht hi hz hsize hby hzs hsz v n xs hown ad m c news hr.1 hcells h1 h63 hbytes hbase
    exact ⟨v', w', hrun, h2, h3, h5⟩

theorem wp_append_any {o : Oper} {a : Act} {K : Act → World → Prop} {Q : Exit → Act → World → Prop} (s x : Operand) (t : TypeId)
    (ho : o.op = .call { callee := .builtin .append, args := #[s, x], argTypes := #[t, t] })
    (base : Nat) (e : TypeId) (i : TypeInfo) (z : Value) (size bytes : Nat) (ht : P.underlying t = some (.slice e)) (hi : P.info? e = some i) (hz : i.zero = some z)
    (hsize : i.size = size) (hby : i.bytes = bytes) (hzs : z.cells.size = size) (hsz : 0 < size)
    (v : Value) (n : Nat) (xs : List Value) (hs : a.eval s = v) (hown : w.ownsRow base e size v n xs)
    (B : Nat) (A : Option Addr) (m c : Nat) (news : List Value) (hx : a.eval x = .slice A m c) (hr : Reads w B size A m news) (h1 : ∀ u ∈ news, u.oneCell' = true)
    (h63 : n + m ≤ maxLen) (hbytes : (n + m) * bytes ≤ 140737488355328) (hbase : base ≤ w.heap.size)
    (h : ∀ v' w', w'.ownsRow base e size v' (n + m) (xs ++ news) → w.grownBy w' v.ownBlock → (v'.ownBlock = v.ownBlock ∨ v'.ownBlock = some w.heap.size) → K (a.put o.dst v') w') : o.wp P a w K Q := by
  obtain ⟨v', w', hrun, h2, h3, h4⟩ := run_append_any (P := P) w base t o.type e i z size bytes ht hi hz hsize hby hzs hsz v n xs hown B A m c news hr h1 h63 hbytes hbase
  unfold Oper.wp execOp
  simp only [ho, resolve, invoke, builtin, Sem.run_bind, Sem.run_pure, Result.andThen_ok, List.map_toArray, List.map_cons, List.map_nil, hs, hx, hrun]
  exact h v' w' h2 h3 h4

theorem wpList_append_any {ops : Array Oper} {rest : List Oper} {o : Oper} {a : Act} {Q : Exit → Act → World → Prop} (hgd : o.guard = none) (s x : Operand) (t : TypeId)
    (ho : o.op = .call { callee := .builtin .append, args := #[s, x], argTypes := #[t, t] })
    (base : Nat) (e : TypeId) (i : TypeInfo) (z : Value) (size bytes : Nat) (ht : P.underlying t = some (.slice e)) (hi : P.info? e = some i) (hz : i.zero = some z)
    (hsize : i.size = size) (hby : i.bytes = bytes) (hzs : z.cells.size = size) (hsz : 0 < size)
    (v : Value) (n : Nat) (xs : List Value) (hs : a.eval s = v) (hown : w.ownsRow base e size v n xs)
    (B : Nat) (A : Option Addr) (m c : Nat) (news : List Value) (hx : a.eval x = .slice A m c) (hr : Reads w B size A m news) (h1 : ∀ u ∈ news, u.oneCell' = true)
    (h63 : n + m ≤ maxLen) (hbytes : (n + m) * bytes ≤ 140737488355328) (hbase : base ≤ w.heap.size)
    (h : ∀ v' w', w'.ownsRow base e size v' (n + m) (xs ++ news) → w.grownBy w' v.ownBlock → (v'.ownBlock = v.ownBlock ∨ v'.ownBlock = some w.heap.size) → wpList P ops Q rest (a.put o.dst v') w') : wpList P ops Q (o :: rest) a w :=
  wpList_plain hgd fun _ hK => wp_append_any w s x t ho base e i z size bytes ht hi hz hsize hby hzs hsz v n xs hs hown B A m c news hx hr h1 h63 hbytes hbase fun v' w' h2 h3 h4 => hK _ _ (h v' w' h2 h3 h4)

theorem step_append_any {ops : Array Oper} {o : Oper} {a : Act} {K : Act → World → Prop} {Q : Exit → Act → World → Prop} {E : Prop} (hgd : o.guard = none) (s x : Operand) (t : TypeId)
    (ho : o.op = .call { callee := .builtin .append, args := #[s, x], argTypes := #[t, t] })
    (base : Nat) (e : TypeId) (i : TypeInfo) (z : Value) (size bytes : Nat) (ht : P.underlying t = some (.slice e)) (hi : P.info? e = some i) (hz : i.zero = some z)
    (hsize : i.size = size) (hby : i.bytes = bytes) (hzs : z.cells.size = size) (hsz : 0 < size)
    (v : Value) (n : Nat) (xs : List Value) (hs : a.eval s = v) (hown : w.ownsRow base e size v n xs)
    (B : Nat) (A : Option Addr) (m c : Nat) (news : List Value) (hx : a.eval x = .slice A m c) (hr : Reads w B size A m news) (h1 : ∀ u ∈ news, u.oneCell' = true)
    (h63 : n + m ≤ maxLen) (hbytes : (n + m) * bytes ≤ 140737488355328) (hbase : base ≤ w.heap.size)
    (h : ∀ v' w', w'.ownsRow base e size v' (n + m) (xs ++ news) → w.grownBy w' v.ownBlock → (v'.ownBlock = v.ownBlock ∨ v'.ownBlock = some w.heap.size) → K (a.put o.dst v') w') :
    if Region.wanted o (yielded ops a.tmps) = true then Oper.wp P o a w K Q else E := by
  have hw : Region.wanted o (yielded ops a.tmps) = true := by simp [Region.wanted, hgd]
  rw [if_pos hw]
  exact wp_append_any w s x t ho base e i z size bytes ht hi hz hsize hby hzs hsz v n xs hs hown B A m c news hx hr h1 h63 hbytes hbase h
end

/-! A region that draws its order, at the class of the worlds in which nothing old has turned. -/
structure Blw (B : Nat) (w : World) where
  to : World
  h : Below B w to
instance (B : Nat) (w : World) : Inhabited (Blw B w) := ⟨⟨w, Below.refl B w⟩⟩
theorem wp_region_blw {P : Program} {id : Nat} {Q : Exit → Act → World → Prop} {a : Act} {w : World} {l : List Oper} (hm : P.follows .mixedOrders = true) (hB : Region.lexB .any l.toArray = true)
    (h : wpQuiet P l.toArray (fun w' => ∃ p : Blw w.heap.size w, w' = p.to) (fun a' => ∀ w', (∃ p : Blw w.heap.size w, w' = p.to) → Q .normal a' w') l a) : (Code.region id l.toArray true).wp P Q a w :=
  wp_region_quiet (C := fun w' => ∃ p : Blw w.heap.size w, w' = p.to) hm hB ⟨⟨_, (Below.refl _ w).drew⟩, rfl⟩ (by simpa using h)
theorem Calls.blw_of {P : Program} {f : FuncId} {args : Array Value} {w : World} (p : Blw w.heap.size w) {v : Value}
    (h : Calls P f args p.to fun e w' => e = .returned v ∧ Below p.to.heap.size p.to w') : Calls P f args p.to fun e w'' => e = .returned v ∧ ∃ q : Blw w.heap.size w, w'' = q.to :=
  h.mono fun _ _ ⟨he, hb⟩ => ⟨he, ⟨⟨_, p.h.trans (hb.mono p.h.size)⟩, rfl⟩⟩
theorem Calls.blw_of_same {P : Program} {f : FuncId} {args : Array Value} {w : World} (p : Blw w.heap.size w) {v : Value}
    (h : Calls P f args p.to fun e w' => e = .returned v ∧ p.to = w') : Calls P f args p.to fun e w'' => e = .returned v ∧ ∃ q : Blw w.heap.size w, w'' = q.to :=
  h.mono fun _ _ ⟨he, hb⟩ => ⟨he, ⟨p, hb.symm⟩⟩
theorem blw_cell {w : World} {a : Addr} {v : Value} (hb : a.block < w.heap.size) (h : w.cell? a = some v) (p : Blw w.heap.size w) : p.to.cell? a = some v := (p.h.cell hb).trans h
theorem blw_blk {w : World} {g : Nat} {t : TypeId} {cs : Array Value} (h : Blk w g t cs) (p : Blw w.heap.size w) (i : Nat) : p.to.cell? ⟨g, i, none⟩ = cs[i]? := (h.below p.h h.lt).cell i
theorem bcell {W w1 : World} (hb : Below W.heap.size W w1) : (∀ b o, b < W.heap.size → w1.cell? ⟨b, o, none⟩ = W.cell? ⟨b, o, none⟩) ∧ (∀ b o, b < W.heap.size → w1.frozen? ⟨b, o, none⟩ = W.frozen? ⟨b, o, none⟩) :=
  ⟨fun b o h => hb.cell (p := ⟨b, o, none⟩) h, fun b o h => hb.frozen (p := ⟨b, o, none⟩) h⟩
theorem below_drewN {B : Nat} {a w : World} (h : Below B a w) (n : Nat) : Below B a (w.drewN n) := ⟨h.os, h.tape, h.output, h.size, h.block⟩
end Go.Proofs.YtifddfchpknkbaaGreatDoor

namespace Go.Proofs.YtifddfchpknkbaaGreatDoor
open Go.RowKit

/-- The slice value at A, of n elements of sz cells each, holds the cells xs, in a block below B. -/
def Rd (w : World) (B sz : Nat) (A : Option Addr) (n : Nat) (xs : List Value) : Prop :=
  xs.length = n * sz ∧ (0 < n → ∃ b off, A = some ⟨b, off, none⟩ ∧ b < B ∧ ∀ j u, xs[j]? = some u → w.cell? ⟨b, off + j, none⟩ = some u)

section
variable {w w' : World} {B B' sz n : Nat} {A : Option Addr} {xs : List Value}
theorem Rd.nil (w : World) (B sz : Nat) (A : Option Addr) : Rd w B sz A 0 [] := ⟨by simp, fun h => absurd h (by omega)⟩
theorem Rd.at1 {k : Nat} (h : Rd w B 1 A n xs) (hk : k < n) : ∃ b off u, A = some ⟨b, off, none⟩ ∧ b < B ∧ xs[k]? = some u ∧ w.cell? ⟨b, off + k, none⟩ = some u := by
  obtain ⟨b, off, e, hb, hc⟩ := h.2 (by omega)
  have hl : k < xs.length := by have := h.1; omega
  exact ⟨b, off, xs[k], e, hb, List.getElem?_eq_getElem hl, hc k _ (List.getElem?_eq_getElem hl)⟩
theorem Rd.atm {α : Type} {zs : List α} {f : α → Value} {k : Nat} (h : Rd w B 1 A n (zs.map f)) (hk : k < n) : ∃ b off, ∃ hz : k < zs.length, A = some ⟨b, off, none⟩ ∧ b < B ∧ w.cell? ⟨b, off + k, none⟩ = some (f zs[k]) := by
  obtain ⟨b, off, e, hb, hc⟩ := h.2 (by omega)
  have hl : k < zs.length := by have := h.1; simp at this; omega
  exact ⟨b, off, hl, e, hb, hc k _ (by simp [hl])⟩
theorem Rd.len {α : Type} {zs : List α} {f : α → Value} (h : Rd w B 1 A n (zs.map f)) : zs.length = n := by simpa using h.1
theorem Rd.keep (h : Rd w B sz A n xs) (hk : ∀ p : Addr, p.block < B → w'.cell? p = w.cell? p) : Rd w' B sz A n xs :=
  ⟨h.1, fun hn => by
    obtain ⟨b, off, e, hb, hc⟩ := h.2 hn
    exact ⟨b, off, e, hb, fun j u hu => (hk _ hb).trans (hc j u hu)⟩⟩
theorem Rd.more (h : Rd w B sz A n xs) (hB : B ≤ B') : Rd w B' sz A n xs :=
  ⟨h.1, fun hn => by
    obtain ⟨b, off, e, hb, hc⟩ := h.2 hn
    exact ⟨b, off, e, by omega, hc⟩⟩
theorem Rd.below (h : Rd w B sz A n xs) (hb : Below B w w') : Rd w' B sz A n xs := h.keep fun _ hp => hb.cell hp
theorem Rd.drew (h : Rd w B sz A n xs) : Rd w.drew B sz A n xs := h
theorem Rd.drewN (h : Rd w B sz A n xs) (k : Nat) : Rd (w.drewN k) B sz A n xs := h
theorem Rd.alloc (h : Rd w B sz A n xs) (hB : B ≤ w.heap.size) (o : Obj) : Rd (w.alloc o) B sz A n xs := h.keep fun p hp => World.cell?_alloc_lt w o p (by omega)
theorem Rd.setCell (h : Rd w B sz A n xs) {p : Addr} (hB : B ≤ p.block) (u : Value) : Rd (w.setCell p u) B sz A n xs :=
  h.keep fun q hq => World.cell?_setCell_other w p q u (fun e => by subst e; omega)
theorem Rd.grown (h : Rd w B sz A n xs) {row : Option Nat} (hg : w.grownBy w' row) (hB : B ≤ w.heap.size) (hr : ∀ g, row = some g → B ≤ g) : Rd w' B sz A n xs :=
  h.keep fun p hp => World.cell?_of_block (hg.block p.block (by omega) (fun e => by have := hr _ e.symm; omega))
theorem Rd.cut (h : Rd w B sz A n xs) {k m cap : Nat} (hk : k ≤ m) (hm : m ≤ n) (hc : n ≤ cap) :
    Rd w B sz (if cap = k then A else A.map (·.add (k * sz))) (m - k) ((xs.drop (k * sz)).take ((m - k) * sz)) := by
  have hlen := h.1
  have e1 : (m - k) * sz ≤ n * sz - k * sz := by rw [← Nat.sub_mul]; exact Nat.mul_le_mul_right _ (by omega)
  refine ⟨by rw [List.length_take, List.length_drop, hlen]; omega, fun hn => ?_⟩
  obtain ⟨b, off, rfl, hb, hcell⟩ := h.2 (by omega)
  rw [if_neg (by omega)]
  refine ⟨b, off + k * sz, by simp [Addr.add], hb, fun j u hu => ?_⟩
  have hj : j < (m - k) * sz := by
    rcases Nat.lt_or_ge j ((m - k) * sz) with hj | hj
    · exact hj
    · rw [List.getElem?_eq_none (by rw [List.length_take]; omega)] at hu; cases hu
  rw [List.getElem?_take_of_lt hj, List.getElem?_drop] at hu
  rw [Nat.add_assoc]
  exact hcell _ u hu
theorem Rd.of_own {base : Nat} {e : TypeId} {c : Nat} (h : w.ownsRow base e sz (.slice A n c) n xs) : Rd w w.heap.size sz A n xs := by
  refine ⟨h.1, fun hn => ?_⟩
  obtain ⟨g, cap, hv, _, hlt⟩ := h.form hn
  have hA : A = some ⟨g, 0, none⟩ := by injection hv
  subst hA
  exact ⟨g, 0, rfl, hlt, fun j u hu => by
    have := h.cells (g := g) rfl j u hu
    simp only [Addr.add] at this
    split at this
    · rename_i h0; subst h0; exact this
    · exact this⟩
theorem Rd.reads (h : Rd w B sz A n xs) : Reads w B sz A n xs := ⟨h.1, fun hn => by
  obtain ⟨b, off, rfl, hb, hc⟩ := h.2 hn
  refine ⟨_, rfl, hb, fun j u hu => ?_⟩
  have := hc j u hu
  simp only [Addr.add]
  split
  · rename_i h0; subst h0; exact this
  · exact this⟩
/-- A literal slice of one-cell elements in a block of the call's own. -/
theorem Rd.blk {g : Nat} {t : TypeId} {cs : Array Value} (h : Blk w g t cs) (hn : n = cs.size) (hg : g < B) : Rd w B 1 (some ⟨g, 0, none⟩) n cs.toList :=
  ⟨by simp [hn], fun _ => ⟨g, 0, rfl, hg, fun j u hu => by rw [Nat.zero_add, h.cell j]; simpa using hu⟩⟩
end

/-- The letters of a string, as numbers. -/
def ltr (s : ByteArray) : List Int := s.data.toList.map fun b => (b.toNat : Int)
theorem ltr_len (s : ByteArray) : (ltr s).length = s.size := by simp [ltr]
theorem ltr_at (s : ByteArray) (k : Nat) (h : k < s.size) : (ltr s)[k]'(by rw [ltr_len]; exact h) = (s[k].toNat : Int) := by simp [ltr]; rfl
theorem ltr_take (s : ByteArray) (k : Nat) (h : k < s.size) : (ltr s).take (k + 1) = (ltr s).take k ++ [(s[k].toNat : Int)] := by
  rw [List.take_succ_eq_append_getElem (by rw [ltr_len]; exact h), ltr_at s k h]
theorem ltr_all (s : ByteArray) (k : Nat) (h : s.size ≤ k) : (ltr s).take k = ltr s := List.take_of_length_le (by rw [ltr_len]; exact h)
theorem ret_int {k : IntKind} {a b : Int} (h : a = b) : Ending.returned (.int k a) = .returned (.int k b) := by rw [h]
theorem ret_bool {a b : Bool} (h : a = b) : Ending.returned (.bool a) = .returned (.bool b) := by rw [h]
end Go.Proofs.YtifddfchpknkbaaGreatDoor

namespace Go.Proofs.YtifddfchpknkbaaGreatDoor
open Go.ChangeShapes Go.WideShapes Go.ChangeAt Go.RowKit Go.Deep

section
variable {H : Type} {enc : TypeId × Value → H} {P : Program} {w : World} {base : Nat} {spare : Nat → Bool} {held : Bool} {r : Reach} {b0 : Nat} {v : Value} {d : DataW H} {p : List MemPlace}

theorem int_cell {n : Nat} {t3 : TypeId} {c : Value} {y : Option (DataW H × List MemPlace)} (h3 : P.underlying t3 = some (.int .i64)) (hy : y.isSome = true) (h : DataW.trod enc P w base spare held n t3 [c] = y) : ∃ k, c = .int .i64 k := by
  obtain ⟨y', rfl⟩ := Option.isSome_iff_exists.1 hy
  obtain ⟨k, hk, _⟩ := DataW.trod_int h3 h
  exact ⟨k, by simpa using hk⟩
theorem some_of_len {α : Type} {l : List α} {i n : Nat} (h : l.length = n) (hi : i < n) : (l[i]?).isSome = true := by
  rw [List.getElem?_eq_getElem (by omega)]; rfl
/-- A struct of numbers that came in. -/
theorem ints_in {t t3 : TypeId} {fs : Array Field} (ht : P.underlying t = some (.struct fs)) (hC : P.cellsOf t = fs.size) (hone : oneCellFields P fs = true) (hf : ∀ (i : Nat) (f : Field), fs[i]? = some f → f.type = t3) (h3 : P.underlying t3 = some (.int .i64))
    (hv : Value.okWide P w r b0 t v) (h : DataW.Trod enc P w base spare held t v d p) : ∃ ns : List Int, ns.length = fs.size ∧ v = .agg (ns.map (Value.int .i64)).toArray := by
  obtain ⟨cs, rfl, hsz⟩ := okWide_struct ht hv
  rw [hC] at hsz
  obtain ⟨fuel, hfu⟩ := h
  obtain ⟨xs, n, _, _, _, hl, hg⟩ := DataW.trod_struct ht hfu
  have each : ∀ i (hi : i < cs.size), ∃ k, cs[i] = .int .i64 k := by
    intro i hi
    have hfi : fs[i]? = some fs[i] := Array.getElem?_eq_getElem (by omega)
    obtain ⟨ho, hc⟩ := hone_of hone i _ hfi
    have g := hg i _ hfi
    rw [ho, hc, hf i _ hfi] at g
    have e : ((Value.cells (.agg cs)).toList.drop i).take 1 = [cs[i]] := by
      simp only [Value.cells]
      rw [List.drop_eq_getElem_cons (by simpa using hi)]
      simp
    rw [e] at g
    exact int_cell h3 (some_of_len hl (by omega)) g
  refine ⟨cs.toList.map intOf, by simpa using hsz, ?_⟩
  congr 1
  apply Array.ext
  · simp
  · intro i h1 h2
    obtain ⟨k, hk⟩ := each i h1
    simp [hk, intOf]
/-- A row of strings that came in. -/
def RowIn (w : World) (c : Value) : Prop := ∃ (A : Option Addr) (n cap : Nat) (rows : List ByteArray), c = .slice A n cap ∧ n ≤ cap ∧ cap ≤ maxLen ∧ (∀ r ∈ rows, r.size ≤ maxLen) ∧ Rd w w.heap.size 1 A n (rows.map Value.string)
theorem open_strs_in {fuel : Nat} {t e : TypeId} {c : Value} {y : DataW H × List MemPlace} (ht : P.underlying t = some (.slice e)) (he : P.underlying e = some .string) (hc1 : P.cellsOf e = 1) (h : DataW.trod enc P w base spare held fuel t [c] = some y) : RowIn w c := by
  rcases open_strs ht he hc1 h with ⟨hc, _⟩ | ⟨a, len, cap, m, Sx, hc, _, hl, hm, hmm, _, hx⟩
  · obtain rfl : c = .slice none 0 0 := by simpa using hc
    exact ⟨none, 0, 0, [], rfl, Nat.le_refl _, Nat.zero_le _, fun r hr => (by cases hr), Rd.nil ..⟩
  · obtain rfl : c = .slice (some a) len cap := by simpa using hc
    have hlm : len ≤ m := by rw [hmm]; split <;> omega
    refine ⟨some a, len, cap, (List.range len).map Sx, rfl, hl, hm, fun r hr => ?_, by simp, fun h0 => ?_⟩
    · obtain ⟨i, hi, rfl⟩ := List.mem_map.1 hr
      have := List.mem_range.1 hi
      exact (hx i (by omega)).2
    · have g0 := (hx 0 (by omega)).1
      obtain ⟨b, off, spot⟩ := a
      have hspot : spot = none := by simpa [Addr.add] using World.cell?_spot g0
      subst hspot
      refine ⟨b, off, rfl, ?_, fun i u hu => ?_⟩
      · exact block_lt_of_cell g0
      · rw [List.getElem?_map, List.getElem?_map] at hu
        by_cases hi : i < len
        · rw [List.getElem?_range hi] at hu
          have hu' : Value.string (Sx i) = u := by simpa using hu
          rw [← hu']
          have hci := (hx i (by omega)).1
          rcases i with _ | i <;> simpa [Addr.add] using hci
        · rw [List.getElem?_eq_none (by simpa using hi)] at hu
          cases hu
/-- A figure that came in. -/
theorem figure_in {t tr e : TypeId} {f0 : Field} (ht : P.underlying t = some (.struct #[f0])) (hC : P.cellsOf t = 1) (hone : oneCellFields P #[f0] = true) (h0 : f0.type = tr) (hr : P.underlying tr = some (.slice e)) (he : P.underlying e = some .string) (hc1 : P.cellsOf e = 1)
    (hv : Value.okWide P w r b0 t v) (h : DataW.Trod enc P w base spare held t v d p) : ∃ (c : Value), v = .agg #[c] ∧ RowIn w c := by
  obtain ⟨cs, rfl, hsz⟩ := okWide_struct ht hv
  rw [hC] at hsz
  obtain ⟨l⟩ := cs
  match l, hsz with
  | [c0], _ =>
    obtain ⟨fuel, hf⟩ := h
    obtain ⟨xs, n, _, _, _, hl, hg⟩ := DataW.trod_struct ht hf
    have hl6 : xs.length = 1 := hl
    obtain ⟨ho, hc⟩ := hone_of hone 0 f0 rfl
    have g0 := hg 0 f0 rfl
    rw [ho, hc, h0] at g0
    obtain ⟨y, hy⟩ := Option.isSome_iff_exists.1 (some_of_len hl6 (i := 0) (by omega))
    rw [hy] at g0
    exact ⟨c0, rfl, open_strs_in hr he hc1 (by simpa [Value.cells] using g0)⟩

/-- All types can be read, and are rows of the table. -/
def RowsOk (P : Program) (ts : List TypeId) : Prop := ∀ t ∈ ts, P.readableRec t = true ∧ t < P.types.size
/-- What came in reads behind the call as before. -/
theorem below_all {W W' : World} (hl : laidOutB P = true) (hb : Below W.heap.size W W') : ∀ {ts : List TypeId} {vs : List Value} {ds : List (DataW H)} {ps : List MemPlace}, RowsOk P ts → DataW.TrodAll enc P W 0 (fun _ => true) true ts vs ds ps → (∀ x ∈ ps, x.block < W.heap.size) → DataW.TrodAll enc P W' 0 (fun b => decide (b < W.heap.size)) true ts vs ds ps
  | [], vs, ds, ps, _, h, _ => by
    obtain ⟨rfl, rfl, rfl⟩ := trodAll_nil h
    exact h
  | t :: ts, vs, ds, ps, ho, h, hlt => by
    obtain ⟨v, vs', d, ds', p, q, rfl, rfl, rfl, hd, hrest⟩ := trodAll_cons h
    have h1 := Below.trod hl (ho t (by simp)).1 (ho t (by simp)).2 hd hb (fun x hx => hlt x (List.mem_append.2 (.inl hx)))
    have h2 := below_all hl hb (ts := ts) (fun u hu => ho u (by simp [hu])) hrest (fun x hx => hlt x (List.mem_append.2 (.inr hx)))
    exact trodAll_cons_mk h1 h2
end

/-- A LAW'S ROW, from its contract: it returns true, and what was there stays. -/
theorem law_lifted {C : Checked} {f : FuncId} {fn : Func} {s : ChangeSpec} {laid : List (String × DataW Unit)} {tb : TypeId} {os : Os} (started : os.Started) {H : Type} {enc : TypeId × Value → H}
    (own : ownKnob C.prog.godebug = none) (noInit : C.prog.inits.idxOf? f = none) (hfn : C.prog.funcs[f]? = some fn) (hl : laidOutB C.prog = true) (hrows : RowsOk C.prog fn.params.toList)
    (hvars : s.vars = []) (hbool : C.prog.underlying tb = some .bool) (hres : fn.resultTypes = #[tb])
    (hspec : ∀ ds : List (DataW H), ds.length = fn.params.size → s.fn H ds = { results := [.lit (.bool true)], args := ds })
    (witness : ∃ (w : World) (tape : Tape) (i : Input), w.os = os ∧ (w.forCall tape i).Shaped C.prog ∧ i.vars = [] ∧ Input.okWide C.prog (w.forCall tape i) .any w.heap.size f i ∧
      ((s.pre enc C.prog fn [] false (w.forCall tape i).memory i.args ∧ laidMetH C.prog laid (w.forCall tape i).memory) ∧ sizedMet enc C.prog fn (OpenSpec.ofChange s) false (w.forCall tape i).memory i.args) ∧ ({} : Assume).holds C.prog (lone (Frame.enter C.prog f i.args .normal) [] (w.forCall tape i)))
    (contract : ∀ (W : World) (base : Nat) (args : Array Value) (ds : List (DataW H)) (p : List MemPlace), (∀ (j : Nat) t v, fn.params[j]? = some t → args[j]? = some v → Value.okWide C.prog W .any base t v) →
      DataW.TrodAll enc C.prog W 0 (fun _ => true) true fn.params.toList args.toList ds p → W.ShapedOpen C.prog → Calls C.prog f args W fun e W' => e = .returned (.bool true) ∧ Below W.heap.size W W') :
    ReturnsInHanded {} C os f .any (fun w args => (s.pre enc C.prog fn [] false w args ∧ laidMetH C.prog laid w) ∧ sizedMet enc C.prog fn (OpenSpec.ofChange s) false w args) (s.post enc C.prog fn false true false false) := by
  refine returnsInHanded_of_calls own started noInit witness ?_
  intro w tape i _ hsh _ hok hpre _
  obtain ⟨_, _, _, fn', hfn', _, _, _, _, hval⟩ := hok
  obtain rfl : fn' = fn := Option.some.inj (hfn'.symm.trans hfn)
  obtain ⟨⟨⟨ds, gs, before, hw, _⟩, _⟩, _⟩ := hpre
  have hw' := DataW.Whole.of_heap (w' := w.forCall tape i) (by rfl) hw
  have hW := hw'
  obtain ⟨p, q, hA, hV, hbef, _, _⟩ := hw'
  rw [hvars] at hV
  obtain ⟨rfl, rfl⟩ := trodVars_none hV
  refine (contract (w.forCall tape i) w.heap.size i.args ds p hval hA hsh).mono fun e W' ⟨he, hb⟩ => ?_
  subst he
  have hlt : ∀ x ∈ p, x.block < (w.forCall tape i).heap.size := fun x hx => hW.lt x (by rw [hbef]; simp [hx])
  have hlen : ds.length = fn'.params.size := by
    have : ∀ {ts : List TypeId} {vs : List Value} {xs : List (DataW H)} {ps : List MemPlace}, DataW.TrodAll enc C.prog (w.forCall tape i) 0 (fun _ => true) true ts vs xs ps → xs.length = ts.length := by
      intro ts
      induction ts with
      | nil => intro vs xs ps h; obtain ⟨rfl, rfl, rfl⟩ := trodAll_nil h; rfl
      | cons t ts ih => intro vs xs ps h; obtain ⟨v, vs', d, ds', p, q, rfl, rfl, rfl, hd, hrest⟩ := trodAll_cons h; simp [ih hrest]
    simpa using this hA
  have hsp := hspec ds hlen
  refine ChangeSpec.post_blind (v := .bool true) ⟨ds, [], before, [], p, [], hW, ?_, ?_, ?_, hb.frame _, fun h => by cases h⟩
  · rw [List.append_nil, hsp, hres]; exact trodAll_mk1 (shut_bool hbool _)
  · rw [List.append_nil, hsp]; exact below_all hl hb hrows hA hlt
  · rw [List.append_nil, hsp, hvars]; rfl
end Go.Proofs.YtifddfchpknkbaaGreatDoor

namespace Go.Proofs.YtifddfchpknkbaaGreatDoor
open Go.RowKit

/-- A reading with its shadow. -/
structure Sh where
  f : Int
  n : Int
  x : Int
  y : Int
  s : ByteArray
def shC (h : Sh) : List Value := [.int .i64 h.f, .int .i64 h.n, .int .i64 h.x, .int .i64 h.y, .string h.s]
theorem flat5_len : ∀ l : List Sh, (l.flatMap shC).length = l.length * 5
  | [] => rfl
  | h :: l => by rw [List.flatMap_cons, List.length_append, flat5_len l]; simp [shC]; omega
theorem flat5 : ∀ (l : List Sh) (k j : Nat) (hk : k < l.length), j < 5 → (l.flatMap shC)[k * 5 + j]? = (shC l[k])[j]?
  | [], k, j, hk, _ => by simp at hk
  | h :: l, 0, j, _, hj => by
    rw [List.flatMap_cons, List.getElem?_append_left (by simp [shC]; omega)]; simp
  | h :: l, k + 1, j, hk, hj => by
    rw [List.flatMap_cons, List.getElem?_append_right (by simp [shC]; omega)]
    have e : (k + 1) * 5 + j - (shC h).length = k * 5 + j := by simp [shC]; omega
    rw [e]
    exact flat5 l k j (by simpa using hk) hj
theorem Rd.at5 {w : World} {B : Nat} {A : Option Addr} {n k : Nat} {l : List Sh} (h : Rd w B 5 A n (l.flatMap shC)) (hk : k < n) :
    ∃ b off, ∃ hz : k < l.length, A = some ⟨b, off, none⟩ ∧ b < B ∧ w.cell? ⟨b, off + k * 5, none⟩ = some (.int .i64 l[k].f) ∧ w.cell? ⟨b, off + k * 5 + 1, none⟩ = some (.int .i64 l[k].n) ∧ w.cell? ⟨b, off + k * 5 + 2, none⟩ = some (.int .i64 l[k].x) ∧ w.cell? ⟨b, off + k * 5 + 3, none⟩ = some (.int .i64 l[k].y) ∧ w.cell? ⟨b, off + k * 5 + 4, none⟩ = some (.string l[k].s) := by
  have hl : k < l.length := by have := h.1; rw [flat5_len] at this; omega
  obtain ⟨b, off, e, hb, hc⟩ := h.2 (by omega)
  exact ⟨b, off, hl, e, hb, hc (k * 5 + 0) _ (flat5 l k 0 hl (by omega)), hc (k * 5 + 1) _ (flat5 l k 1 hl (by omega)), hc (k * 5 + 2) _ (flat5 l k 2 hl (by omega)), hc (k * 5 + 3) _ (flat5 l k 3 hl (by omega)), hc (k * 5 + 4) _ (flat5 l k 4 hl (by omega))⟩
theorem Rd.len5 {w : World} {B : Nat} {A : Option Addr} {n : Nat} {l : List Sh} (h : Rd w B 5 A n (l.flatMap shC)) : l.length = n := by have := h.1; rw [flat5_len] at this; omega
theorem info156 : (Tryz.prog.info? 156).map (fun i => (i.zero, i.size, i.bytes)) = some (some (.agg #[.int .i64 0, .int .i64 0, .int .i64 0, .int .i64 0, .string ByteArray.empty]), 5, 48) := by kernel_rfl
theorem filter_take {α : Type} (p : α → Bool) (l : List α) (k : Nat) (h : k < l.length) : (l.take (k + 1)).filter p = (l.take k).filter p ++ (if p l[k] then [l[k]] else []) := by
  rw [List.take_succ_eq_append_getElem h, List.filter_append]; cases hp : p l[k] <;> simp [hp]
end Go.Proofs.YtifddfchpknkbaaGreatDoor

namespace Go.Proofs.YtifddfchpknkbaaGreatDoor
open Go.RowKit Go.Maps

theorem plainElem_bool_inv {H : Type} {P : Program} {e : TypeId} (he : P.underlying e = some .bool) {v : Value} {z : DataW H × List MemPlace} (h : plainElem P e v = some z) : ∃ x, v = .bool x ∧ z = (.lit (.bool x), []) := by
  unfold plainElem at h
  rw [he] at h
  cases v <;> simp at h
  exact ⟨_, rfl, h.symm⟩

/-- A look-up in a map whose elements are bools. -/
theorem wpList_lookup_own_bool {H : Type} {P : Program} (w : World) {ops : Array Oper} {rest : List Oper} {o : Oper} {a : Act} {Q : Exit → Act → World → Prop}
    (hg : o.guard = none) (m x : Operand) (t : TypeId) (hop : o.op = Op.lookup t m x false)
    (k e : TypeId) (K : Keyed P k) (ht : P.underlying t = some (.map k e)) (he : P.underlying e = some .bool) (hz : (zeroValue e).run P w = .ok (.bool false) w) (b n : Nat) (D : DataW H)
    (hm : a.eval m = .map (some b)) (hown : w.ownsMap P k (plainElem P e) b n D) (key : Value) (kl : Lit) (hx : a.eval x = key) (hkey : keyOf P k key = some kl) (c : Bool) (hat : D.atKey kl (.lit (.bool false)) = .lit (.bool c))
    (hK : wpList P ops Q rest (a.put o.dst (.bool c)) w) : wpList P ops Q (o :: rest) a w := by
  refine wpList_plain hg fun K' hK' => ?_
  obtain ⟨v, ps, hrun, hv⟩ := hown.lookup K ht hz (plainElem_bool he false) hkey
  obtain ⟨c', rfl, hc⟩ := plainElem_bool_inv he hv
  rw [hat] at hc
  simp only [Prod.mk.injEq] at hc
  have : c = c' := by simpa using hc.1
  subst this
  unfold Oper.wp
  simp [execOp, hop, hm, hx, hrun, Result.andThen]
  exact hK' _ _ hK

/-- A set of numbers, as a map to true. -/
def iset (fs : List Int) : DataW Unit := setOf (.lit (.bool true)) (fs.map fun f => Lit.int .i64 f)
theorem iset_keys (fs : List Int) : ∀ x ∈ fs.map (fun f => Lit.int .i64 f), WideAt.IsKeyLit x := by
  intro x hx
  obtain ⟨f, _, rfl⟩ := List.mem_map.1 hx
  trivial
theorem iset_nil : iset [] = .map [] := rfl
theorem iset_snoc (fs : List Int) (f : Int) : iset (fs ++ [f]) = (iset fs).put (.int .i64 f) (.lit (.bool true)) := by
  rw [iset, List.map_append, List.map_cons, List.map_nil, setOf_snoc]; rfl
theorem sameInt (a b : Int) : (Lit.int .i64 a).sameKey (Lit.int .i64 b) = (a == b) := by
  by_cases h : a = b <;> simp [Lit.sameKey, h]
theorem any_same (fs : List Int) (f : Int) : (fs.map (fun f => Lit.int .i64 f)).any (fun x => x.sameKey (.int .i64 f)) = fs.contains f := by
  induction fs with
  | nil => rfl
  | cons x l ih =>
    simp only [List.map_cons, List.any_cons, ih, sameInt, List.contains_cons]
    congr 1
    by_cases h : x = f
    · subst h; rfl
    · have h' : ¬ f = x := fun e => h e.symm
      rw [beq_false_of_ne h, beq_false_of_ne h']
theorem iset_has (fs : List Int) (f : Int) : has (iset fs) (.int .i64 f) = fs.contains f := by
  rw [iset, has_setOf _ _ _ (iset_keys fs), any_same]
/-- The numbers of a list, each once. -/
def uniq (fs : List Int) : List Int := fs.foldl (fun L x => if L.contains x then L else L ++ [x]) []
theorem addKey_map (xs L : List Int) : (xs.map (fun f => Lit.int .i64 f)).foldl addKey (L.map fun f => Lit.int .i64 f) = (xs.foldl (fun L x => if L.contains x then L else L ++ [x]) L).map fun f => Lit.int .i64 f := by
  induction xs generalizing L with
  | nil => rfl
  | cons x l ih =>
    rw [List.map_cons, List.foldl_cons, List.foldl_cons, ← ih]
    congr 1
    rw [addKey, any_same]
    split <;> simp
theorem iset_size (fs : List Int) : Maps.size (iset fs) = (uniq fs).length := by
  rw [iset, size_setOf _ _ (iset_keys fs)]
  have := addKey_map fs []
  rw [List.map_nil] at this
  rw [this, List.length_map]; rfl
theorem iset_at (fs : List Int) (f : Int) : (iset fs).atKey (.int .i64 f) (.lit (.bool false)) = .lit (.bool (fs.contains f)) := by
  obtain ⟨n, hn⟩ : ∃ n, n = fs.length := ⟨_, rfl⟩
  induction n generalizing fs with
  | zero => obtain rfl : fs = [] := List.eq_nil_of_length_eq_zero hn.symm; rfl
  | succ n ih =>
    obtain ⟨l, x, rfl⟩ : ∃ l x, fs = l ++ [x] := by
      rcases List.eq_nil_or_concat fs with rfl | ⟨l, x, rfl⟩
      · simp at hn
      · exact ⟨l, x, by simp⟩
    rw [iset_snoc]
    by_cases h : f = x
    · subst h
      rw [atKey_put_same (k := .int .i64 f) (show IsMap (iset l) from (tidy_setOf _ _ (iset_keys l)).isMap) (by trivial)]
      simp
    · rw [atKey_put_other (by intro e; injection e with _ e; exact h e), ih l (by simp at hn; omega)]
      simp [h]
end Go.Proofs.YtifddfchpknkbaaGreatDoor

namespace Go.Proofs.YtifddfchpknkbaaGreatDoor
open Go.RowKit Go.Maps

theorem zero4 (w : World) : (zeroValue 4).run Tryz.prog w = .ok (.bool false) w := by kernel_rfl
/-- What a map of figures is, in block b: the figures of the shades, each to true. -/
abbrev FMap (w : World) (b n : Nat) (fs : List Int) : Prop := w.ownsMap Tryz.prog 3 (plainElem Tryz.prog 4) b n (iset fs)

set_option maxRecDepth 100000 in
theorem figures_any (A : Option Addr) (n cap : Nat) (l : List Sh) (w : World) (hn : n ≤ 100000) (hwf : ∀ h ∈ l, (Lit.int .i64 h.f).wf = true) (hr : Rd w w.heap.size 5 A n (l.flatMap shC)) :
    Calls Tryz.prog 117 #[.slice A n cap] w fun e w' => e = .returned (.map (some w.heap.size)) ∧ FMap w' w.heap.size n (l.map Sh.f) ∧ Below w.heap.size w w' := by
  have hlen := hr.len5
  have hmm := @run_makeMap Tryz.prog
  go_enter Tryz.func117, Tryz.ntmps117
  go_wp2
  go_loopg [9] n (fun g i wr => ∃ k : Nat, g = n - k ∧ k ≤ n ∧ i = .int .i64 k ∧ FMap wr w.heap.size k ((l.take k).map Sh.f) ∧ Below w.heap.size w wr)
  case atStart => exact ⟨0, rfl, Nat.zero_le _, rfl, World.ownsMap_made _ _ _ _, (Below.refl _ _).alloc (Nat.le_refl _) _⟩
  case round =>
    obtain ⟨k, hg, hk, rfl, hown, hB⟩ := hrel
    have HG := Lib.hid hg; clear hg
    have HLEN := Lib.hid hlen; clear hlen
    by_cases hlt : k < n
    · obtain ⟨b, off, hz, rfl, hb, c0, c1, c2, c3, c4⟩ := (hr.below hB).at5 hlt
      have htk : (l.take (k + 1)).map Sh.f = (l.take k).map Sh.f ++ [l[k].f] := by rw [List.take_succ_eq_append_getElem hz, List.map_append]; rfl
      have hwk := hwf _ (List.getElem_mem hz)
      generalize l[k] = h at *
      obtain ⟨f, hn0, x, y, s⟩ := h
      have HTK := Lib.hid htk; clear htk
      dsimp only at c0 c1 c2 c3 c4 hwk
      go_wp2_with (first
        | (at_mapUpdate; refine wpList_mapUpdate_own _ rfl _ _ _ 157 rfl 3 4 (int_keyed Tryz.underlying3) Tryz.underlying157 _ w.heap.size k _ rfl (hown.alloc _) (by unfold maxLen; omega) _ _ _ rfl rfl (keyOf_int_mk Tryz.underlying3 hwk) _ [] (plainElem_bool Tryz.underlying4 true) ?_; intro w1 hown1 hgrow1)
        | go_in)
      go_roundg (n - (k + 1))
      case measure => rw [HG.out]; omega
      case rel => exact ⟨k + 1, rfl, by omega, by go_num, by unfold FMap; rw [HTK.out, iset_snoc]; exact hown1, (hB.alloc hB.size _).grown hgrow1 (by have := hB.size; simp only [World.size_alloc]; omega) (fun g hg => by cases hg; exact Nat.le_refl _)⟩
    · obtain rfl : k = n := by omega
      have hta : l.take k = l := List.take_of_length_le (by have := HLEN.out; omega)
      rw [hta] at hown
      go_wp2
      go_ret
      exact ⟨rfl, hown, hB⟩
end Go.Proofs.YtifddfchpknkbaaGreatDoor

namespace Go.Proofs.YtifddfchpknkbaaGreatDoor
open Go.RowKit Go.Maps

theorem info57 : (Tryz.prog.info? 57).map (fun i => (i.zero, i.size, i.bytes)) = some (some (.int .i64 0), 1, 8) := by kernel_rfl
theorem made_at (z : Value) (m i : Nat) : (madeCells #[z] m)[i]? = if i < m then some z else none := by
  unfold madeCells
  by_cases h : i < m
  · simp [h, Nat.mod_one]
  · simp [h]
/-- The word of a figure, given the figures that may be seen. -/
def wordV (fs : List Int) (i : Nat) : Int := if fs.contains (i : Int) then (if 1 < (uniq fs).length then 2 else 3) else 1
def wordC (fs : List Int) (m k : Nat) : Array Value := ((List.range m).map fun i => Value.int .i64 (if i < k then wordV fs i else 0)).toArray
theorem wordC_size (fs : List Int) (m k : Nat) : (wordC fs m k).size = m := by simp [wordC]
theorem wordC_set (fs : List Int) (m k : Nat) (v : Int) (hv : v = wordV fs k) : (wordC fs m k).setIfInBounds k (.int .i64 v) = wordC fs m (k + 1) := by
  apply Array.ext
  · simp [wordC]
  · intro i h1 h2
    have h1' := h1
    rw [Array.size_setIfInBounds] at h1'
    rw [Array.getElem_setIfInBounds h1']
    simp only [wordC, List.getElem_toArray, List.getElem_map, List.getElem_range]
    by_cases h : k = i
    · subst h; simp [hv]
    · simp only [h, if_false]
      by_cases h3 : i < k
      · simp [h3, Nat.lt_succ_of_lt h3]
      · have h4 : ¬ i < k + 1 := by omega
        simp [h3, h4]
theorem wordC_0 (fs : List Int) (m : Nat) : madeCells #[Value.int .i64 0] m = wordC fs m 0 := by
  apply Array.ext_getElem?
  intro i
  rw [made_at]
  by_cases h : i < m
  · simp [wordC, h]
  · simp [wordC, h]
theorem wordC_at (fs : List Int) (m k i : Nat) (h : i < m) : (wordC fs m k)[i]? = some (.int .i64 (if i < k then wordV fs i else 0)) := by
  simp [wordC, h]
/-- The words of all figures. -/
def wordsL (fs : List Int) (m : Nat) : List Int := (List.range m).map (wordV fs)
theorem wordC_end (fs : List Int) (m : Nat) : wordC fs m m = ((wordsL fs m).map (Value.int .i64)).toArray := by
  apply Array.ext
  · simp [wordC, wordsL]
  · intro i h1 h2
    have : i < m := by simpa [wordC] using h1
    simp [wordC, wordsL, this]

set_option maxRecDepth 100000 in
theorem words_any (b nb m : Nat) (fs : List Int) (w : World) (hm : m ≤ 1000) (hown : FMap w b nb fs) :
    Calls Tryz.prog 118 #[.map (some b), .int .i64 m] w fun e w' => e = .returned (.slice (some ⟨w.heap.size, 0, none⟩) m m) ∧ Blk w' w.heap.size 57 ((wordsL fs m).map (Value.int .i64)).toArray ∧ Below w.heap.size w w' := by
  obtain ⟨i0, hi, hz0, hz1', hz2'⟩ := info_parts info57
  have hmk0 := run_makeSlice (P := Tryz.prog) w 75 57 i0 (.int .i64 0) Tryz.underlying75 hi hz0 .i64 .i64 m m (by omega) (by omega) (by rw [hz1']; omega) (by rw [hz2']; omega) (by omega)
  have hmk : (Instr.makeSlice 75 (.int .i64 (m : Int)) (.int .i64 (m : Int))).run Tryz.prog w = .ok (.slice (some ⟨w.heap.size, 0, none⟩) m m) (w.alloc (.cells (wordC fs m 0) 57)) := by
    rw [← wordC_0 fs m]
    simpa [hz1', Value.cells] using hmk0
  clear hmk0
  have hlt0 := hown.lt
  obtain ⟨d, hd⟩ : ∃ d, d = Maps.size (iset fs) := ⟨_, rfl⟩
  have hd2 : (uniq fs).length = d := by rw [hd, iset_size]
  have HD := Lib.hid hd; have HD2 := Lib.hid hd2; clear hd hd2
  go_enter Tryz.func118, Tryz.ntmps118
  go_wp2
  go_loopg [10] m (fun g i wr => ∃ k : Nat, g = m - k ∧ k ≤ m ∧ i = .int .i64 k ∧ Blk wr w.heap.size 57 (wordC fs m k) ∧ FMap wr b nb fs ∧ Below w.heap.size w wr)
  case atStart => exact ⟨0, rfl, Nat.zero_le _, rfl, Blk.new _ _ _, hown.alloc _, (Below.refl _ _).alloc (Nat.le_refl _) _⟩
  case round =>
    clear hown
    obtain ⟨k, hg, hk, rfl, hb, hown, hB⟩ := hrel
    have HG := Lib.hid hg; clear hg
    have hq := hb.cell k
    have hfz := hb.frozen k
    have hltb := hb.lt
    have hbs : b ≠ w.heap.size := by omega
    by_cases hlt : k < m
    · have hwk : (Lit.int .i64 (k : Int)).wf = true := WalkArith.wf_i64 (by omega)
      rw [wordC_at fs m k k hlt] at hq
      cases hc : fs.contains (k : Int)
      · have hat := iset_at fs k
        rw [hc] at hat
        have HV := Lib.hid (show (1 : Int) = wordV fs k by simp only [wordV, hc]; rfl); clear hc
        have HAT := Lib.hid hat; clear hat
        go_wp2_with (first
          | (at_lookup; refine wpList_lookup_own_bool _ rfl _ _ 157 rfl 3 4 (int_keyed Tryz.underlying3) Tryz.underlying157 Tryz.underlying4 (zero4 _) b nb _ rfl hown _ _ rfl (keyOf_int_mk Tryz.underlying3 hwk) _ HAT.out ?_)
          | go_in)
        go_roundg (m - (k + 1))
        case measure => rw [HG.out]; omega
        case rel => exact ⟨k + 1, rfl, by omega, by go_num, by rw [← wordC_set fs m k 1 HV.out]; exact hb.set_ k _, hown.setCell hbs _, hB.setCell (p := ⟨w.heap.size, k, none⟩) (Nat.le_refl _) _⟩
      · have hat := iset_at fs k
        rw [hc] at hat
        have HAT := Lib.hid hat; clear hat
        by_cases hdd : 1 < d
        · have HV := Lib.hid (show (2 : Int) = wordV fs k by simp only [wordV, hc, HD2.out, hdd]; rfl); clear hc
          go_wp2_with (first
            | (at_lookup; refine wpList_lookup_own_bool _ rfl _ _ 157 rfl 3 4 (int_keyed Tryz.underlying3) Tryz.underlying157 Tryz.underlying4 (zero4 _) b nb _ rfl hown _ _ rfl (keyOf_int_mk Tryz.underlying3 hwk) _ HAT.out ?_)
            | (at_len; refine wpList_len_own _ rfl _ 157 rfl 3 4 Tryz.underlying157 _ b nb _ rfl hown ?_; rw [← HD.out])
            | go_in)
          go_roundg (m - (k + 1))
          case measure => rw [HG.out]; omega
          case rel => exact ⟨k + 1, rfl, by omega, by go_num, by rw [← wordC_set fs m k 2 HV.out]; exact hb.set_ k _, hown.setCell hbs _, hB.setCell (p := ⟨w.heap.size, k, none⟩) (Nat.le_refl _) _⟩
        · have HV := Lib.hid (show (3 : Int) = wordV fs k by simp only [wordV, hc, HD2.out, hdd]; rfl); clear hc
          go_wp2_with (first
            | (at_lookup; refine wpList_lookup_own_bool _ rfl _ _ 157 rfl 3 4 (int_keyed Tryz.underlying3) Tryz.underlying157 Tryz.underlying4 (zero4 _) b nb _ rfl hown _ _ rfl (keyOf_int_mk Tryz.underlying3 hwk) _ HAT.out ?_)
            | (at_len; refine wpList_len_own _ rfl _ 157 rfl 3 4 Tryz.underlying157 _ b nb _ rfl hown ?_; rw [← HD.out])
            | go_in)
          go_roundg (m - (k + 1))
          case measure => rw [HG.out]; omega
          case rel => exact ⟨k + 1, rfl, by omega, by go_num, by rw [← wordC_set fs m k 3 HV.out]; exact hb.set_ k _, hown.setCell hbs _, hB.setCell (p := ⟨w.heap.size, k, none⟩) (Nat.le_refl _) _⟩
    · obtain rfl : k = m := by omega
      go_wp2
      go_ret
      exact ⟨rfl, by rw [← wordC_end]; exact hb, hB⟩
end Go.Proofs.YtifddfchpknkbaaGreatDoor

namespace Go.Proofs.YtifddfchpknkbaaGreatDoor
open Go.RowKit

def inB (n lo hi : Int) : Bool := decide (lo ≤ n) && decide (n ≤ hi)

theorem in_any (n lo hi : Int) (w : World) :
    Calls Tryz.prog 99 #[.int .i64 n, .int .i64 lo, .int .i64 hi] w fun e w' => e = .returned (.bool (inB n lo hi)) ∧ w = w' := by
  unfold inB
  by_cases h : lo ≤ n
  all_goals
    go_enter Tryz.func99, Tryz.ntmps99
    go_wp2
    go_ret
    simp
    try omega
theorem within_any (n lo hi : Int) (w : World) :
    Calls Tryz.prog 130 #[.int .i64 n, .int .i64 lo, .int .i64 hi] w fun e w' => e = .returned (.bool (inB n lo hi)) ∧ w = w' := by
  unfold inB
  by_cases h : lo ≤ n
  all_goals
    go_enter Tryz.func130, Tryz.ntmps130
    go_wp2
    go_ret
    simp
    try omega
theorem goodAway_any (n : Int) (w : World) :
    Calls Tryz.prog 150 #[.int .i64 n] w fun e w' => e = .returned (.bool (inB n (-20) 20)) ∧ w = w' := by
  go_enter Tryz.func150, Tryz.ntmps150
  go_wp2_with (go_at_call 130; refine (within_any _ _ _ _).mono ?_; rintro e w' ⟨rfl, rfl⟩)
  go_ret
  simp
theorem at_any (x y : Int) (w : World) :
    Calls Tryz.prog 37 #[.int .i64 x, .int .i64 y] w fun e w' => e = .returned (.bool (inB x (-20) 20 && inB y (-20) 20)) ∧ w = w' := by
  cases h1 : inB x (-20) 20
  all_goals
    go_enter Tryz.func37, Tryz.ntmps37
    go_wp2_with (go_at_call 99; refine (in_any _ _ _ _).mono ?_; rintro e w' ⟨rfl, rfl⟩)
    go_ret
    simp

def stageB (W H F L X Y : Int) : Bool := inB W 1 16 && inB H 1 16 && inB F 2 40 && inB L 0 3 && inB X 0 W && inB Y 0 H
theorem goodStage_any (W H F L X Y : Int) (w : World) :
    Calls Tryz.prog 97 #[.agg #[.int .i64 W, .int .i64 H, .int .i64 F, .int .i64 L, .int .i64 X, .int .i64 Y]] w fun e w' => e = .returned (.bool (stageB W H F L X Y)) ∧ Below w.heap.size w w' := by
  unfold stageB
  cases h1 : inB W 1 16
  case' true => cases h2 : inB H 1 16
  case' true.true => cases h3 : inB F 2 40
  case' true.true.true => cases h4 : inB L 0 3
  case' true.true.true.true => cases h5 : inB X 0 W
  all_goals
    go_enter Tryz.func97, Tryz.ntmps97
    go_wp2_with (go_at_call 130; refine (within_any _ _ _ _).mono ?_; rintro e w' ⟨rfl, rfl⟩)
    go_ret
    refine ⟨by simp, (Below.refl _ _).alloc (Nat.le_refl _) _⟩
end Go.Proofs.YtifddfchpknkbaaGreatDoor

namespace Go.Proofs.YtifddfchpknkbaaGreatDoor
open Go.RowKit

/-- Where a number comes first in a list, or -1. -/
def idxOf (c : Int) : List Int → Nat → Int
  | [], _ => -1
  | z :: zs, k => if c == z then k else idxOf c zs (k + 1)

theorem idxOf_drop (c : Int) (zs : List Int) (k : Nat) (h : k < zs.length) : idxOf c (zs.drop k) k = if c == zs[k] then (k : Int) else idxOf c (zs.drop (k + 1)) (k + 1) := by
  rw [List.drop_eq_getElem_cons h, idxOf]

theorem bytesIndex_any (A : Option Addr) (n cap : Nat) (zs : List Int) (c : Int) (w : World) (B : Nat) (hn : n ≤ maxLen) (hr : Rd w B 1 A n (zs.map (Value.int .u8))) :
    Calls Tryz.prog 183 #[.slice A n cap, .int .u8 c] w fun e w' => e = .returned (.int .i64 (idxOf c zs 0)) ∧ w = w' := by
  have hz := hr.len
  unfold maxLen at hn
  go_enter Tryz.func183, Tryz.ntmps183
  go_wp2
  go_loop [8] (fun i => ∃ k : Nat, k ≤ n ∧ i = .int .i64 k ∧ idxOf c (zs.drop k) k = idxOf c zs 0) (fun i => n - (intOf i).toNat)
  case atStart => exact ⟨0, Nat.zero_le _, rfl, rfl⟩
  case round =>
    obtain ⟨k, hk, rfl, hi⟩ := hrel
    by_cases hlt : k < n
    · obtain ⟨b, off, hzk, rfl, hb, hc⟩ := hr.atm hlt
      have hi2 := idxOf_drop c zs k hzk
      have HI := Lib.hid hi; have HI2 := Lib.hid hi2; clear hi hi2
      cases he : (c == zs[k])
      · go_wp2
        go_round
        case rel => exact ⟨k + 1, by omega, by go_num, by rw [← HI.out, HI2.out, he]; rfl⟩
        case measure => simp [intOf]; omega
      · go_wp2
        go_ret
        exact ⟨ret_int (by rw [← HI.out, HI2.out, he]; rfl), rfl⟩
    · have hkn : zs.drop k = [] := List.drop_eq_nil_of_le (by omega)
      have HI := Lib.hid hi; have HK := Lib.hid hkn; clear hi hkn
      go_wp2
      go_ret
      exact ⟨ret_int (by rw [← HI.out, HK.out]; rfl), rfl⟩
end Go.Proofs.YtifddfchpknkbaaGreatDoor

namespace Go.Proofs.YtifddfchpknkbaaGreatDoor
open Go.RowKit

theorem mulB {x y : Int} {a b : Nat} (h1 : -(a : Int) ≤ x) (h2 : x ≤ a) (h3 : -(b : Int) ≤ y) (h4 : y ≤ b) : -((a * b : Nat) : Int) ≤ x * y ∧ x * y ≤ ((a * b : Nat) : Int) := by
  have h : (x * y).natAbs ≤ a * b := by rw [Int.natAbs_mul]; exact Nat.mul_le_mul (by omega) (by omega)
  omega

theorem bytesContains_any (A : Option Addr) (n cap : Nat) (zs : List Int) (c : Int) (w : World) (B : Nat) (hn : n ≤ maxLen) (hr : Rd w B 1 A n (zs.map (Value.int .u8))) :
    Calls Tryz.prog 149 #[.slice A n cap, .int .u8 c] w fun e w' => e = .returned (.bool (decide (0 ≤ idxOf c zs 0))) ∧ w = w' := by
  go_enter Tryz.func149, Tryz.ntmps149
  go_wp2_with (go_at_call 183; refine (bytesIndex_any _ _ _ _ _ _ _ hn hr).mono ?_; rintro e w' ⟨rfl, rfl⟩)
  go_ret
  simp

theorem idxOf_ge (c : Int) : ∀ (zs : List Int) (k : Nat), (0 ≤ idxOf c zs k) ↔ c ∈ zs
  | [], k => by simp [idxOf]
  | z :: zs, k => by
    simp only [idxOf]
    by_cases h : c = z
    · subst h; simp
    · have h1 : (c == z) = false := by simpa using h
      rw [h1]; simp [idxOf_ge c zs (k + 1), h]

/-- How many letters of a string are one of some. -/
def cntL (l : List Int) (zs : List Int) : Nat := (l.filter fun b => decide (0 ≤ idxOf b zs 0)).length
theorem cntL_snoc (l : List Int) (b : Int) (zs : List Int) : cntL (l ++ [b]) zs = cntL l zs + (if decide (0 ≤ idxOf b zs 0) = true then 1 else 0) := by
  unfold cntL; rw [List.filter_append, List.length_append]; by_cases h : 0 ≤ idxOf b zs 0 <;> simp [h]
theorem cntL_le (l : List Int) (zs : List Int) : cntL l zs ≤ l.length := List.length_filter_le _ _

theorem count_any (s : ByteArray) (A : Option Addr) (n cap : Nat) (zs : List Int) (w : World) (B : Nat) (hs : s.size ≤ maxLen) (hn : n ≤ maxLen) (hr : Rd w B 1 A n (zs.map (Value.int .u8))) :
    Calls Tryz.prog 103 #[.string s, .slice A n cap] w fun e w' => e = .returned (.int .i64 (cntL (ltr s) zs)) ∧ w = w' := by
  unfold maxLen at hs
  go_enter Tryz.func103, Tryz.ntmps103
  go_wp2
  go_loop [5, 9] (fun t i => ∃ k : Nat, k ≤ s.size ∧ i = .int .i64 k ∧ t = .int .i64 (cntL ((ltr s).take k) zs)) (fun _ i => s.size - (intOf i).toNat)
  case atStart => exact ⟨0, Nat.zero_le _, rfl, rfl⟩
  case round =>
    obtain ⟨k, hk, rfl, rfl⟩ := hrel
    have hle := cntL_le ((ltr s).take k) zs
    have hl : ((ltr s).take k).length ≤ k := List.length_take_le _ _
    by_cases hlt : k < s.size
    · have hsn := cntL_snoc ((ltr s).take k) s[k].toNat zs
      rw [← ltr_take s k hlt] at hsn
      have HS := Lib.hid hsn; clear hsn
      cases he : decide (0 ≤ idxOf (s[k].toNat : Int) zs 0)
      all_goals
        go_wp2_with (go_at_call 149; refine (bytesContains_any _ _ _ _ _ _ _ hn hr).mono ?_; rintro e w' ⟨rfl, rfl⟩)
        go_round
        case rel => exact ⟨k + 1, by omega, by go_num, by rw [HS.out, he]; go_num⟩
        case measure => simp [intOf]; omega
    · go_wp2
      go_ret
      exact ⟨ret_int (by rw [ltr_all s k (by omega)]), rfl⟩

theorem Stage_any (W H F L X Y : Int) (w : World) :
    Calls Tryz.prog 27 #[.agg #[.int .i64 W, .int .i64 H, .int .i64 F, .int .i64 L, .int .i64 X, .int .i64 Y]] w fun e w' => e = .returned (.bool (stageB W H F L X Y)) ∧ Below w.heap.size w w' := by
  unfold stageB
  cases h1 : inB W 1 16
  case' true => cases h2 : inB H 1 16
  case' true.true => cases h3 : inB F 2 40
  case' true.true.true => cases h4 : inB L 0 3
  case' true.true.true.true => cases h5 : inB X 0 W
  all_goals
    go_enter Tryz.func27, Tryz.ntmps27
    go_wp2_with (go_at_call 99; refine (in_any _ _ _ _).mono ?_; rintro e w' ⟨rfl, rfl⟩)
    go_ret
    refine ⟨by simp, (Below.refl _ _).alloc (Nat.le_refl _) _⟩

def placeB (F N X Y : Int) : Bool := inB N 0 (F - 1) && inB X (-20) 20 && inB Y (-20) 20
theorem goodPlace_any (W H F L X Y N PX PY : Int) (w : World) (hF : 2 ≤ F) (hF2 : F ≤ 40) :
    Calls Tryz.prog 106 #[.agg #[.int .i64 W, .int .i64 H, .int .i64 F, .int .i64 L, .int .i64 X, .int .i64 Y], .agg #[.int .i64 N, .int .i64 PX, .int .i64 PY]] w fun e w' => e = .returned (.bool (placeB F N PX PY)) ∧ Below w.heap.size w w' := by
  unfold placeB
  cases h1 : inB N 0 (F - 1)
  case' true => cases h2 : inB PX (-20) 20
  all_goals
    go_enter Tryz.func106, Tryz.ntmps106
    go_wp2_with (first | (go_at_call 130; refine (within_any _ _ _ _).mono ?_; rintro e w' ⟨rfl, rfl⟩) | (go_at_call 150; refine (goodAway_any _ _).mono ?_; rintro e w' ⟨rfl, rfl⟩))
    go_ret
    refine ⟨by simp, ((Below.refl _ _).alloc (Nat.le_refl _) _).alloc (by simp) _⟩
theorem Place_any (W H F L X Y N PX PY : Int) (w : World) (hF : 2 ≤ F) (hF2 : F ≤ 40) :
    Calls Tryz.prog 31 #[.agg #[.int .i64 W, .int .i64 H, .int .i64 F, .int .i64 L, .int .i64 X, .int .i64 Y], .agg #[.int .i64 N, .int .i64 PX, .int .i64 PY]] w fun e w' => e = .returned (.bool (placeB F N PX PY)) ∧ Below w.heap.size w w' := by
  unfold placeB
  cases h1 : inB N 0 (F - 1)
  all_goals
    go_enter Tryz.func31, Tryz.ntmps31
    go_wp2_with (first | (go_at_call 99; refine (in_any _ _ _ _).mono ?_; rintro e w' ⟨rfl, rfl⟩) | (go_at_call 37; refine (at_any _ _ _).mono ?_; rintro e w' ⟨rfl, rfl⟩))
    go_ret
    refine ⟨by simp, ((Below.refl _ _).alloc (Nat.le_refl _) _).alloc (by simp) _⟩

theorem argument_any (b : Bool) (w : World) : Calls Tryz.prog 96 #[.bool b] w fun e w' => e = .returned (.int .i64 (if b then 0 else 2)) ∧ w = w' := by
  cases b
  all_goals
    go_enter Tryz.func96, Tryz.ntmps96
    go_wp2
    go_ret
    simp

def clB (a b : Int) : Bool := (a == 35 && b == 46) || (a == 46 && b == 35)
theorem clash_any (a b : Int) (w : World) : Calls Tryz.prog 163 #[.int .u8 a, .int .u8 b] w fun e w' => e = .returned (.bool (clB a b)) ∧ w = w' := by
  unfold clB
  cases h1 : (a == 35) <;> cases h2 : (b == 46) <;> cases h3 : (a == 46)
  all_goals
    go_enter Tryz.func163, Tryz.ntmps163
    go_wp2
    go_ret
    simp
theorem Opposed_any (a b : Int) (w : World) : Calls Tryz.prog 81 #[.int .u8 a, .int .u8 b] w fun e w' => e = .returned (.bool (clB a b)) ∧ w = w' := by
  unfold clB
  cases h1 : (a == 35) <;> cases h2 : (b == 46) <;> cases h3 : (a == 46)
  all_goals
    go_enter Tryz.func81, Tryz.ntmps81
    go_wp2
    go_ret
    simp

/-- Where the shadow of a line is. -/
def lineV (ax F N x : Int) : Int := ax * (F - N) + (x - ax) * F
theorem line_any (ax F N x : Int) (w : World) (a1 : -100 ≤ ax) (a2 : ax ≤ 100) (b1 : -100 ≤ F) (b2 : F ≤ 100) (c1 : -100 ≤ N) (c2 : N ≤ 100) (d1 : -100 ≤ x) (d2 : x ≤ 100) :
    Calls Tryz.prog 111 #[.int .i64 ax, .int .i64 F, .int .i64 N, .int .i64 x] w fun e w' => e = .returned (.int .i64 (lineV ax F N x)) ∧ w = w' := by
  obtain ⟨p1, p2⟩ := mulB (x := ax) (y := F - N) (a := 100) (b := 200) (by omega) (by omega) (by omega) (by omega)
  obtain ⟨q1, q2⟩ := mulB (x := x - ax) (y := F) (a := 200) (b := 100) (by omega) (by omega) (by omega) (by omega)
  go_enter Tryz.func111, Tryz.ntmps111
  go_wp2
  go_ret
  simp [lineV]
end Go.Proofs.YtifddfchpknkbaaGreatDoor

namespace Go.Proofs.YtifddfchpknkbaaGreatDoor
open Go.RowKit

theorem i64_ok (n : Int) (h : -9223372036854775808 ≤ n ∧ n ≤ 9223372036854775807) : IntKind.i64.wrap n = n := IntWalk.i64_in n h
theorem long_any (f e : Int) (b : Bool) (w : World) (h1 : 0 ≤ f) (h2 : f ≤ 100) (h3 : 0 ≤ e) (h4 : e ≤ 100) :
    Calls Tryz.prog 182 #[.agg #[.int .i64 f, .int .i64 e, .bool b]] w fun r w' => r = .returned (.int .i64 (e - f)) ∧ Below w.heap.size w w' := by
  go_enter Tryz.func182, Tryz.ntmps182
  go_wp2
  go_ret
  exact ⟨rfl, (Below.refl _ _).alloc (Nat.le_refl _) _⟩
theorem parts_any (W H F L X Y N PX PY : Int) (R : Value) (w : World) (h1 : 0 ≤ F) (h2 : F ≤ 100) (h3 : 0 ≤ N) (h4 : N ≤ 100) :
    Calls Tryz.prog 156 #[.agg #[.int .i64 W, .int .i64 H, .int .i64 F, .int .i64 L, .int .i64 X, .int .i64 Y, R, .int .i64 N, .int .i64 PX, .int .i64 PY]] w fun r w' => r = .returned (.int .i64 (F - N)) ∧ Below w.heap.size w w' := by
  go_enter Tryz.func156, Tryz.ntmps156
  go_wp2
  go_ret
  exact ⟨rfl, (Below.refl _ _).alloc (Nat.le_refl _) _⟩
theorem blur_any (W H F L X Y N PX PY : Int) (R : Value) (w : World) (h1 : 0 ≤ L) (h2 : L ≤ 100) (h3 : 0 ≤ N) (h4 : N ≤ 100) :
    Calls Tryz.prog 153 #[.agg #[.int .i64 W, .int .i64 H, .int .i64 F, .int .i64 L, .int .i64 X, .int .i64 Y, R, .int .i64 N, .int .i64 PX, .int .i64 PY]] w fun r w' => r = .returned (.int .i64 (L * N)) ∧ Below w.heap.size w w' := by
  obtain ⟨p1, p2⟩ := mulB (x := L) (y := N) (a := 100) (b := 100) (by omega) (by omega) (by omega) (by omega)
  go_enter Tryz.func153, Tryz.ntmps153
  go_wp2
  go_ret
  exact ⟨rfl, (Below.refl _ _).alloc (Nat.le_refl _) _⟩
theorem cloth_any (W H F L X Y N PX PY : Int) (R : Value) (w : World) :
    Calls Tryz.prog 155 #[.agg #[.int .i64 W, .int .i64 H, .int .i64 F, .int .i64 L, .int .i64 X, .int .i64 Y, R, .int .i64 N, .int .i64 PX, .int .i64 PY]] w fun r w' => r = .returned (.agg #[.int .i64 W, .int .i64 H]) ∧ Below w.heap.size w w' := by
  go_enter Tryz.func155, Tryz.ntmps155
  go_wp2
  refine bodyPost_ret (v := .agg #[.int .i64 W, .int .i64 H]) (by simp [results, Tryz.results155, go_sem]) rfl ⟨rfl, ?_⟩
  exact ((Below.refl _ _).alloc (Nat.le_refl _) _).alloc (by simp) _
theorem directions_any (w : World) :
    Calls Tryz.prog 152 #[] w fun r w' => r = .returned (.agg #[.func (.func 190) #[] #[], .func (.func 191) #[] #[]]) ∧ Below w.heap.size w w' := by
  go_enter Tryz.func152, Tryz.ntmps152
  go_wp2
  refine bodyPost_ret (v := .agg #[.func (.func 190) #[] #[], .func (.func 191) #[] #[]]) (by simp [results, Tryz.results152, go_sem]) rfl ⟨rfl, ?_⟩
  exact ((Below.refl _ _).alloc (Nat.le_refl _) _)
set_option maxHeartbeats 400000 in
theorem across_any (W H F L X Y N PX PY c : Int) (R : Value) (hR : R.oneCell' = true) (w : World) (x1 : 0 ≤ X) (x2 : X ≤ 100) (h1 : 0 ≤ F) (h2 : F ≤ 100) (h3 : 0 ≤ N) (h4 : N ≤ 100) (p1 : -100 ≤ PX) (p2 : PX ≤ 100) (c1 : 0 ≤ c) (c2 : c ≤ 100) :
    Calls Tryz.prog 190 #[.agg #[.int .i64 W, .int .i64 H, .int .i64 F, .int .i64 L, .int .i64 X, .int .i64 Y, R, .int .i64 N, .int .i64 PX, .int .i64 PY], .int .i64 c] w fun r w' => r = .returned (.int .i64 (lineV X F N (PX + c))) ∧ Below w.heap.size w w' := by
  obtain ⟨s1, s2⟩ := mulB (x := X) (y := F - N) (a := 100) (b := 200) (by omega) (by omega) (by omega) (by omega)
  obtain ⟨q1, q2⟩ := mulB (x := PX + c - X) (y := F) (a := 400) (b := 100) (by omega) (by omega) (by omega) (by omega)
  go_enter Tryz.func190, Tryz.ntmps190
  go_wp2
  obtain ⟨W1, hW1⟩ : ∃ W1 : World, W1 = w.alloc (.cells #[.int .i64 W, .int .i64 H, .int .i64 F, .int .i64 L, .int .i64 X, .int .i64 Y, R, .int .i64 N, .int .i64 PX, .int .i64 PY] 140) := ⟨_, rfl⟩
  rw [← hW1]
  have hblk : Blk W1 w.heap.size 140 #[.int .i64 W, .int .i64 H, .int .i64 F, .int .i64 L, .int .i64 X, .int .i64 Y, R, .int .i64 N, .int .i64 PX, .int .i64 PY] := by rw [hW1]; exact Blk.new _ _ _
  have hB : Below w.heap.size w W1 := by rw [hW1]; exact (Below.refl _ _).alloc (Nat.le_refl _) _
  clear hW1
  have hc := fun p i => blw_blk hblk p i
  have e1 := i64_ok (X * (F - N)) (by omega)
  have e2 := i64_ok (PX + c) (by omega)
  have e3 := i64_ok (PX + c - X) (by omega)
  have e4 := i64_ok ((PX + c - X) * F) (by omega)
  have e5 := i64_ok (X * (F - N) + (PX + c - X) * F) (by omega)
  refine wp_region_blw (by kernel_rfl) (by kernel_rfl) ?_
  repeat (quiet_step ((go_at_call 156; exact Calls.blw_of _ (parts_any _ _ _ _ _ _ _ _ _ _ _ h1 h2 h3 h4))))
  refine wpQuiet_nil ?_
  clear e1 e2 e3 e4 e5
  rintro _ ⟨p, rfl⟩
  go_wp2
  go_ret
  exact ⟨rfl, hB.trans (p.h.mono hB.size)⟩
set_option maxHeartbeats 400000 in
theorem down_any (W H F L X Y N PX PY c : Int) (R : Value) (hR : R.oneCell' = true) (w : World) (x1 : 0 ≤ Y) (x2 : Y ≤ 100) (h1 : 0 ≤ F) (h2 : F ≤ 100) (h3 : 0 ≤ N) (h4 : N ≤ 100) (p1 : -100 ≤ PY) (p2 : PY ≤ 100) (c1 : 0 ≤ c) (c2 : c ≤ 100) :
    Calls Tryz.prog 191 #[.agg #[.int .i64 W, .int .i64 H, .int .i64 F, .int .i64 L, .int .i64 X, .int .i64 Y, R, .int .i64 N, .int .i64 PX, .int .i64 PY], .int .i64 c] w fun r w' => r = .returned (.int .i64 (lineV Y F N (PY + c))) ∧ Below w.heap.size w w' := by
  obtain ⟨s1, s2⟩ := mulB (x := Y) (y := F - N) (a := 100) (b := 200) (by omega) (by omega) (by omega) (by omega)
  obtain ⟨q1, q2⟩ := mulB (x := PY + c - Y) (y := F) (a := 400) (b := 100) (by omega) (by omega) (by omega) (by omega)
  go_enter Tryz.func191, Tryz.ntmps191
  go_wp2
  obtain ⟨W1, hW1⟩ : ∃ W1 : World, W1 = w.alloc (.cells #[.int .i64 W, .int .i64 H, .int .i64 F, .int .i64 L, .int .i64 X, .int .i64 Y, R, .int .i64 N, .int .i64 PX, .int .i64 PY] 140) := ⟨_, rfl⟩
  rw [← hW1]
  have hblk : Blk W1 w.heap.size 140 #[.int .i64 W, .int .i64 H, .int .i64 F, .int .i64 L, .int .i64 X, .int .i64 Y, R, .int .i64 N, .int .i64 PX, .int .i64 PY] := by rw [hW1]; exact Blk.new _ _ _
  have hB : Below w.heap.size w W1 := by rw [hW1]; exact (Below.refl _ _).alloc (Nat.le_refl _) _
  clear hW1
  have hc := fun p i => blw_blk hblk p i
  have e1 := i64_ok (Y * (F - N)) (by omega)
  have e2 := i64_ok (PY + c) (by omega)
  have e3 := i64_ok (PY + c - Y) (by omega)
  have e4 := i64_ok ((PY + c - Y) * F) (by omega)
  have e5 := i64_ok (Y * (F - N) + (PY + c - Y) * F) (by omega)
  refine wp_region_blw (by kernel_rfl) (by kernel_rfl) ?_
  repeat (quiet_step ((go_at_call 156; exact Calls.blw_of _ (parts_any _ _ _ _ _ _ _ _ _ _ _ h1 h2 h3 h4))))
  refine wpQuiet_nil ?_
  clear e1 e2 e3 e4 e5
  rintro _ ⟨p, rfl⟩
  go_wp2
  go_ret
  exact ⟨rfl, hB.trans (p.h.mono hB.size)⟩
end Go.Proofs.YtifddfchpknkbaaGreatDoor

namespace Go.Proofs.YtifddfchpknkbaaGreatDoor
open Go.RowKit

/-! A region that draws its order, whose last operation L (a store, say) waits for every load: what the loads read (T) is asked again behind each operation but L. -/
section
variable {P : Program} {ops : Array Oper} {md : Region.Mode} {Q : Exit → Act → World → Prop} {T : World → Prop} {L : Nat}

def wpG (P : Program) (md : Region.Mode) (ops : Array Oper) (Q : Exit → Act → World → Prop) (T : World → Prop) (L : Nat) : Nat → Array Bool → Act → World → Prop
  | 0, listed, a, w => Region.ready md ops listed = [] ∧ Q .normal a w
  | fuel + 1, listed, a, w =>
    (Region.ready md ops listed = [] → Q .normal a w) ∧
    ∀ i ∈ Region.ready md ops listed, wpOp P ops Q i (fun a' w' => (i = L ∨ T w') ∧ wpG P md ops Q T L fuel (listed.setIfInBounds i true) a' w') a w

theorem wpAny_of_wpG : ∀ (fuel : Nat) (listed : Array Bool) (a : Act) (w : World), wpG P md ops Q T L fuel listed a w → wpAny P md ops Q fuel listed a w
  | 0, _, _, _, h => h
  | fuel + 1, _, _, _, h => ⟨h.1, fun i hi => wpOp_mono (fun a' w' h' => wpAny_of_wpG fuel _ a' w' h'.2) (h.2 i hi)⟩

theorem wpG_first {i : Nat} {oi oL : Oper} {v : Value} (hi : ops[i]? = some oi) (hoL : ops[L]? = some oL) (hLi : ∃ e ∈ oL.after, Region.binds md e = true ∧ e.on = i) (hsel : ∀ (j : Nat) (o : Oper) cs b, ops[j]? = some o → o.op ≠ .select cs b)
    (hQ : ∀ c a w, Q (.panic c) (a.put oi.dst v) w → Q (.panic c) a w) :
    ∀ (fuel : Nat) (listed : Array Bool) (a : Act) (w : World),
      (∀ j oj, ops[j]? = some oj → j ≠ i → listed.getD j true = false → (∀ e ∈ oj.after, Region.binds md e = true → e.on ≠ i) → oi.apart ops oj = true) →
      i ∈ Region.ready md ops listed → YieldsIf P ops T oi v a → T w →
      wpG P md ops Q T L fuel (listed.setIfInBounds i true) (a.put oi.dst v) w → wpG P md ops Q T L (fuel + 1) listed a w := by
  intro fuel
  induction fuel with
  | zero =>
    intro listed a w _ hr hy hS H
    refine ⟨fun h => (by rw [h] at hr; cases hr), fun j hj => ?_⟩
    by_cases hji : j = i
    · subst hji; exact hy.wpOp hi hS ⟨.inr hS, H⟩
    · have := ready_mono hj hji
      rw [H.1] at this
      cases this
  | succ fuel ih =>
    intro listed a w hfree hr hy hS H
    refine ⟨fun h => (by rw [h] at hr; cases hr), fun j hj => ?_⟩
    by_cases hji : j = i
    · subst hji; exact hy.wpOp hi hS ⟨.inr hS, H⟩
    · have h1 := H.2 j (ready_mono hj hji)
      obtain ⟨hjun, oj, hoj, hall⟩ := mem_ready.1 hj
      have hnot : ∀ e ∈ oj.after, Region.binds md e = true → e.on ≠ i := fun e he hb heq => by
        have h1 := hall e he hb
        have h0 := (mem_ready.1 hr).1
        rw [heq] at h1
        rcases Nat.lt_or_ge i listed.size with h' | h'
        · simp [h'] at h0 h1; rw [h0] at h1; cases h1
        · simp [Array.getElem?_eq_none h'] at h1
      have hjL : j ≠ L := fun e => by
        subst e
        obtain rfl : oj = oL := Option.some.inj (hoj.symm.trans hoL)
        obtain ⟨e, he, hb, hon⟩ := hLi
        exact hnot e he hb hon
      have h2 := wpOp_putIf hoj (hfree j oj hoj hji hjun hnot) (fun cs b => hsel i oi cs b hi) (fun cs b => hsel j oj cs b hoj) hQ hy h1
      have hfree' : ∀ k ok, ops[k]? = some ok → k ≠ i → (listed.setIfInBounds j true).getD k true = false →
          (∀ e ∈ ok.after, Region.binds md e = true → e.on ≠ i) → oi.apart ops ok = true := fun k ok hk hki hun hno => by
        refine hfree k ok hk hki ?_ hno
        by_cases hjk : j = k
        · subst hjk; exact hjun
        · rw [getD_set_ne true hjk] at hun; exact hun
      refine wpOp_mono (fun a' w' h3 => ?_) h2
      have hT : T w' := h3.2.1.resolve_left hjL
      refine ⟨.inr hT, ih (listed.setIfInBounds j true) a' w' hfree' (ready_mono hr (Ne.symm hji)) h3.1 hT ?_⟩
      rw [Array.setIfInBounds_comm _ _ hji]
      exact h3.2.2

def lastWaits (md : Region.Mode) (ops : Array Oper) (L i : Nat) : Bool :=
  match ops[L]? with
  | some o => o.after.any fun e => Region.binds md e && e.on == i
  | none => false
theorem lastWaits_spec {i : Nat} (h : lastWaits md ops L i = true) : ∃ oL, ops[L]? = some oL ∧ ∃ e ∈ oL.after, Region.binds md e = true ∧ e.on = i := by
  unfold lastWaits at h
  split at h
  · rename_i o ho
    obtain ⟨e, he, hb⟩ := Array.any_eq_true'.1 h
    simp only [Bool.and_eq_true, beq_iff_eq] at hb
    exact ⟨o, ho, e, he, hb.1, hb.2⟩
  · cases h

/-- Number i may come first: it only looks at what T tells. -/
theorem wpG_take {i : Nat} {oi : Oper} {v : Value} {fuel : Nat} {listed : Array Bool} {a : Act} {w : World} (hi : ops[i]? = some oi)
    (hs : Region.noSelect ops = true) (hf : Region.free md ops listed i = true) (hr : (Region.ready md ops listed).contains i = true) (hl : lastWaits md ops L i = true)
    (hQ : ∀ c a w, Q (.panic c) (a.put oi.dst v) w → Q (.panic c) a w) (hy : YieldsIf P ops T oi v a) (hS : T w)
    (h : wpG P md ops Q T L fuel (listed.setIfInBounds i true) (a.put oi.dst v) w) : wpG P md ops Q T L (fuel + 1) listed a w := by
  obtain ⟨oL, hoL, hLi⟩ := lastWaits_spec hl
  exact wpG_first hi hoL hLi (Region.noSelect_spec hs) hQ fuel listed a w (Region.free_spec hi hf) (by simpa using hr) hy hS h

/-- Number i alone may come up. -/
theorem wpG_one {i : Nat} {o : Oper} {fuel : Nat} {listed : Array Bool} {a : Act} {w : World} (hi : ops[i]? = some o) (hr : Region.ready md ops listed = [i])
    (h : ∀ K : Act → World → Prop, (∀ a w, (i = L ∨ T w) → wpG P md ops Q T L fuel (listed.setIfInBounds i true) a w → K a w) → if Region.wanted o (yielded ops a.tmps) = true then Oper.wp P o a w K Q else K (a.put o.dst undef) w) :
    wpG P md ops Q T L (fuel + 1) listed a w := by
  refine ⟨fun h0 => (by rw [hr] at h0; cases h0), fun j hj => ?_⟩
  rw [hr] at hj
  obtain rfl : j = i := by simpa using hj
  exact wpOp_step hi fun K hK => h K fun a w h1 h2 => hK a w ⟨h1, h2⟩

theorem wpG_done {listed : Array Bool} {a : Act} {w : World} (hr : Region.ready md ops listed = []) (h : Q .normal a w) : ∀ fuel, wpG P md ops Q T L fuel listed a w
  | 0 => ⟨hr, h⟩
  | _ + 1 => ⟨fun _ => h, by rw [hr]; simp⟩

theorem wp_region_G {id : Nat} {a : Act} {w : World} (T : World → Prop) (L : Nat) (hm : P.follows .mixedOrders = true)
    (h : wpG P .any ops Q T L ops.size (Array.replicate ops.size false) a w.drew) : (Code.region id ops true).wp P Q a w :=
  wp_region_any hm (wpAny_of_wpG _ _ _ _ h)
end
end Go.Proofs.YtifddfchpknkbaaGreatDoor

namespace Go.Proofs.YtifddfchpknkbaaGreatDoor
open Go.RowKit

/-! A region that draws its order, within a round of a range over a function: out of its walk outside of one. -/
def noDefer (ops : Array Oper) : Bool := ops.all fun o => match o.op with | .defer _ => false | _ => true
theorem noDefer_spec {ops : Array Oper} (h : noDefer ops = true) {i : Nat} {o : Oper} (ho : ops[i]? = some o) : ∀ c, o.op ≠ .defer c := by
  intro c hc
  have h1 := Array.all_eq_true'.1 h o (Array.mem_of_getElem? ho)
  rw [hc] at h1
  cases h1

theorem operIn {P : Program} {o : Oper} {a : Act} {w : World} {K : Act → World → Prop} {Q : Exit → Act → World → Prop} {l n : Nat} (hd : ∀ c, o.op ≠ .defer c) (h : Oper.wp P o a w K Q) :
    Oper.wpIn (Fence.wide.inRound l) n P o a w K Q := by
  refine ⟨fun _ _ => trivial, ?_⟩
  rw [show (Fence.wide.inRound l).round = some l from rfl, Oper.semAt_some l _ _ hd]
  unfold Oper.wp at h
  generalize (execOp a.eval o).run P w = r at h
  cases r with
  | ok x w' =>
    cases x with
    | value v => exact h
    | skip => exact h
    | defer d => exact h
    | enter f args => exact ⟨fun h0 => by simp [Fence.wide] at h0, CallsIn.inRound l (callsIn_wide.2 h)⟩
    | row row args =>
      refine ⟨fun h0 => by simp [Fence.wide] at h0, ?_⟩
      intro c cs _
      obtain ⟨v, w'', hR, hs⟩ := h c cs
      exact ⟨v, w'', hR, stepsIn_wide.2 hs⟩
    | _ => exact h.elim
  | halt x w' =>
    cases x with
    | panic v => exact h
    | _ => exact h.elim

theorem opsIn {P : Program} {ops : Array Oper} {Q : Exit → Act → World → Prop} {l n : Nat} (hd : noDefer ops = true) (hQ : ¬ LetsOut Q) :
    ∀ (lst : List Nat) (a : Act) (w : World), wpOps P ops Q lst a w → wpOpsIn (Fence.wide.inRound l) n P ops Q lst a w
  | [], _, _, h => h
  | i :: rest, a, w, h => by
    simp only [wpOps] at h
    simp only [wpOpsIn]
    cases ho : ops[i]? with
    | none => simp only [ho] at h; exact opsIn hd hQ rest a w h
    | some o =>
      simp only [ho] at h
      by_cases hw : Region.wanted o (yielded ops a.tmps) = true
      · simp only [hw, if_true] at h ⊢
        rcases h with h | h
        · exact operIn (noDefer_spec hd ho) (Oper.wp_mono (fun a w => opsIn hd hQ rest a w) h)
        · exact absurd h.2 hQ
      · simp only [hw, if_false, Bool.false_eq_true] at h ⊢
        exact ⟨fun _ _ => trivial, opsIn hd hQ rest _ w h⟩

theorem wpIn_region_G {P : Program} {ops : Array Oper} {Q : Exit → Act → World → Prop} {l n id : Nat} {a : Act} {w : World} (T : World → Prop) (L : Nat) (hm : P.follows .mixedOrders = true)
    (hd : noDefer ops = true) (hQ : ¬ LetsOut Q) (h : wpG P .any ops Q T L ops.size (Array.replicate ops.size false) a w.drew) : (Code.region id ops true).wpIn (Fence.wide.inRound l) n P Q a w :=
  wpIn_region_draw fun t => by
    simp only [Region.schedule, hm, Bool.true_or, if_true]
    exact opsIn hd hQ _ _ _ (wpAny_sound ops.size t _ a _ (wpAny_of_wpG _ _ _ _ h))
end Go.Proofs.YtifddfchpknkbaaGreatDoor
