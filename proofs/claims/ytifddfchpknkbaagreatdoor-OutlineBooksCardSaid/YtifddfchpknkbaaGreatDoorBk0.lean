import Derived.Test.YtifddfchpknkbaaGreatDoorProg
import Derived.Test.YtifddfchpknkbaaGreatDoorShelf
import Derived.WalkKit
import Derived.WalkSpells
import Derived.WalkLawsBesides
import Derived.BigQuiet
import Derived.Deep.QuietTactic
import Derived.Deep.DeepFit
import Derived.Deep.DeepMust
import Derived.Maps.AppendAt
import Derived.Deep.AppendLies
import Derived.RegionTactic
import Derived.OwnWalk
import Derived.Lib.Hide
import Derived.Laws.EntriesVeiled
import Derived.Lib.LaidTab
import Derived.Deep.LoopGhost
import Derived.Deep.DeepCutAuto
import Derived.Deep.CutBlock
import Derived.OrdersHeld
import Derived.Deep.RegionHeld3
import Derived.OneCell
set_option linter.unusedVariables false
set_option linter.unusedSimpArgs false
namespace Go.Proofs.YtifddfchpknkbaaGreatDoor
section
open Go.RowKit
theorem block_of_add (a : Addr) (n : Nat) : (a.add n).block = a.block := by unfold Addr.add; split <;> rfl
theorem add_of_add (a : Addr) (i j : Nat) : (a.add i).add j = a.add (i + j) := by
  unfold Addr.add
  by_cases hi : i = 0 <;> by_cases hj : j = 0 <;> simp [hi, hj, Nat.add_assoc]
def Reads (w : World) (B size : Nat) (A : Option Addr) (n : Nat) (xs : List Value) : Prop :=
  xs.length = n * size ∧ (0 < n → ∃ ad, A = some ad ∧ ad.block < B ∧ ∀ j u, xs[j]? = some u → w.cell? (ad.add j) = some u)
section
variable {w w' : World} {B B' size n : Nat} {A : Option Addr} {xs : List Value}
theorem Reads.keep (h : Reads w B size A n xs) (hk : ∀ p : Addr, p.block < B → w'.cell? p = w.cell? p) : Reads w' B size A n xs :=
  ⟨h.1, fun hn => by
    obtain ⟨ad, e, hb, hc⟩ := h.2 hn
    exact ⟨ad, e, hb, fun j u hu => (hk _ (by rw [block_of_add]; exact hb)).trans (hc j u hu)⟩⟩
theorem Reads.more (h : Reads w B size A n xs) (hB : B ≤ B') : Reads w B' size A n xs :=
  ⟨h.1, fun hn => by
    obtain ⟨ad, e, hb, hc⟩ := h.2 hn
    exact ⟨ad, e, by omega, hc⟩⟩
theorem Reads.below (h : Reads w B size A n xs) (hb : Below B w w') : Reads w' B size A n xs := h.keep fun _ hp => hb.cell hp
theorem Reads.drew (h : Reads w B size A n xs) : Reads w.drew B size A n xs := h
theorem Reads.drewN (h : Reads w B size A n xs) (k : Nat) : Reads (w.drewN k) B size A n xs := h
theorem Reads.alloc (h : Reads w B size A n xs) (hB : B ≤ w.heap.size) (o : Obj) : Reads (w.alloc o) B size A n xs := h.keep fun p hp => World.cell?_alloc_lt w o p (by omega)
theorem Reads.setCell (h : Reads w B size A n xs) {p : Addr} (hB : B ≤ p.block) (u : Value) : Reads (w.setCell p u) B size A n xs :=
  h.keep fun q hq => World.cell?_setCell_other w p q u (fun e => by subst e; omega)
theorem Reads.grown (h : Reads w B size A n xs) {row : Option Nat} (hg : w.grownBy w' row) (hB : B ≤ w.heap.size) (hr : ∀ g, row = some g → B ≤ g) : Reads w' B size A n xs :=
  h.keep fun p hp => World.cell?_of_block (hg.block p.block (by omega) (fun e => by have := hr _ e.symm; omega))
theorem Reads.cut (h : Reads w B size A n xs) {k cap : Nat} (hk : k ≤ n) (hc : n ≤ cap) :
    Reads w B size (if cap = k then A else A.map (·.add (k * size))) (n - k) (xs.drop (k * size)) := by
  refine ⟨by rw [List.length_drop, h.1, Nat.sub_mul], fun hn => ?_⟩
  obtain ⟨ad, rfl, hb, hcell⟩ := h.2 (by omega)
  rw [if_neg (by omega)]
  refine ⟨ad.add (k * size), rfl, by rw [block_of_add]; exact hb, fun j u hu => ?_⟩
  rw [add_of_add]
  exact hcell _ u (by rw [← hu, List.getElem?_drop])
theorem Reads.of_own {base : Nat} {e : TypeId} {c : Nat} (h : w.ownsRow base e size (.slice A n c) n xs) : Reads w w.heap.size size A n xs := by
  refine ⟨h.1, fun hn => ?_⟩
  obtain ⟨g, cap, hv, _, hlt⟩ := h.form hn
  have hA : A = some ⟨g, 0, none⟩ := by injection hv
  subst hA
  exact ⟨_, rfl, hlt, h.cells (g := g) rfl⟩
end
def Blk (w : World) (g : Nat) (t : TypeId) (cs : Array Value) : Prop := w.heap[g]? = some (.cells cs t (0, 0))
section
variable {w w' : World} {g : Nat} {t : TypeId} {cs : Array Value}
theorem Blk.lt (h : Blk w g t cs) : g < w.heap.size := by
  rcases Nat.lt_or_ge g w.heap.size with hlt | hge
  · exact hlt
  · unfold Blk at h; rw [Array.getElem?_eq_none hge] at h; cases h
theorem Blk.cell (h : Blk w g t cs) (i : Nat) : w.cell? ⟨g, i, none⟩ = cs[i]? := cell_of_row w g i cs t (0, 0) h
theorem Blk.frozen (h : Blk w g t cs) (i : Nat) : w.frozen? ⟨g, i, none⟩ = false := by
  unfold Blk at h
  simp [World.frozen?, h]
theorem Blk.new (w : World) (t : TypeId) (cs : Array Value) : Blk (w.alloc (.cells cs t)) w.heap.size t cs := heap_alloc_new w _
theorem Blk.drew (h : Blk w g t cs) : Blk w.drew g t cs := h
theorem Blk.drewN (h : Blk w g t cs) (n : Nat) : Blk (w.drewN n) g t cs := h
theorem Blk.alloc (h : Blk w g t cs) (o : Obj) : Blk (w.alloc o) g t cs := (Below.heap_alloc w o g h.lt).trans h
theorem Blk.set_ (h : Blk w g t cs) (i : Nat) (u : Value) : Blk (w.setCell ⟨g, i, none⟩ u) g t (cs.setIfInBounds i u) := by
  unfold Blk at h ⊢
  simp [World.setCell, Array.getElem?_modify, h]
theorem Blk.far (h : Blk w g t cs) {p : Addr} (hp : g ≠ p.block) (u : Value) : Blk (w.setCell p u) g t cs := (Below.heap_setCell w p u g hp).trans h
theorem Blk.below {B : Nat} (h : Blk w g t cs) (hb : Below B w w') (hg : g < B) : Blk w' g t cs := (hb.block g hg).trans h
theorem Blk.grown {row : Option Nat} (h : Blk w g t cs) (hb : w.grownBy w' row) (hg : some g ≠ row) : Blk w' g t cs := (hb.block g h.lt hg).trans h
theorem Blk.ne_ {g' : Nat} {t' : TypeId} {cs' : Array Value} (h : Blk w g t cs) (h' : Blk w g' t' cs') (hne : t ≠ t') : g ≠ g' := by
  rintro rfl
  unfold Blk at h h'
  rw [h] at h'
  injection h' with h'
  injection h' with _ ht
  exact hne ht
theorem own_blk_ne {base : Nat} {e : TypeId} {size n : Nat} {v : Value} {xs : List Value} (h : w.ownsRow base e size v n xs) (hg : Blk w g t cs) (hne : e ≠ t) : v.ownBlock ≠ some g := by
  rcases h.2 with ⟨rfl, _⟩ | ⟨g', cap, cur, rfl, _, hh, _⟩
  · simp [Value.ownBlock]
  · intro he
    have : g' = g := by simpa [Value.ownBlock] using he
    subst this
    exact Blk.ne_ (t := e) hh hg hne rfl
end
section
variable {P : Program} (w : World)
theorem run_append_of_nil (base : Nat) (t ty e : TypeId) (i : TypeInfo) (size : Nat) (ht : P.underlying t = some (.slice e)) (hi : P.info? e = some i)
    (v : Value) (n : Nat) (xs : List Value) (hown : w.ownsRow base e size v n xs) (c : Nat) : (Builtin.append_ #[t, t] ty #[v, .slice none 0 c]).run P w = .ok v w := by
  rcases hown.2 with ⟨rfl, rfl⟩ | ⟨g, cap, cur, rfl, _, _, hnc, _⟩
  · simp [Builtin.append_, run_underlying ht, sizeOf, typeInfo, hi, Builtin.lenOf, Builtin.firstCells]
  · simp [Builtin.append_, run_underlying ht, sizeOf, typeInfo, hi, Builtin.lenOf, Builtin.firstCells, hnc, storeCells]
theorem run_append_any (base : Nat) (t ty e : TypeId) (i : TypeInfo) (z : Value) (size bytes : Nat) (ht : P.underlying t = some (.slice e)) (hi : P.info? e = some i) (hz : i.zero = some z)
    (hsize : i.size = size) (hby : i.bytes = bytes) (hzs : z.cells.size = size) (hsz : 0 < size)
    (v : Value) (n : Nat) (xs : List Value) (hown : w.ownsRow base e size v n xs)
    (B : Nat) (A : Option Addr) (m c : Nat) (news : List Value) (hr : Reads w B size A m news) (h1 : ∀ u ∈ news, u.oneCell' = true)
    (h63 : n + m ≤ maxLen) (hbytes : (n + m) * bytes ≤ 140737488355328) (hbase : base ≤ w.heap.size) :
    ∃ v' w', (Builtin.append_ #[t, t] ty #[v, .slice A m c]).run P w = .ok v' w' ∧ w'.ownsRow base e size v' (n + m) (xs ++ news) ∧ w.grownBy w' v.ownBlock ∧
      (v'.ownBlock = v.ownBlock ∨ v'.ownBlock = some w.heap.size) := by
  rcases A with _ | ad
  · have hm : m = 0 := by
      rcases Nat.eq_zero_or_pos m with h0 | h0
      · exact h0
      · obtain ⟨ad, h, _⟩ := hr.2 h0
        cases h
    subst hm
    have hn : news = [] := List.eq_nil_of_length_eq_zero (by simpa using hr.1)
    subst hn
    exact ⟨v, w, run_append_of_nil w base t ty e i size ht hi v n xs hown c, by simpa using hown, World.grownBy.refl w _, .inl rfl⟩
  · have hcells : ∀ j u, news[j]? = some u → w.cell? (ad.add j) = some u := by
      intro j u hu
      rcases Nat.eq_zero_or_pos m with h0 | h0
      · subst h0
        have hn : news = [] := List.eq_nil_of_length_eq_zero (by simpa using hr.1)
        subst hn
        simp at hu
      · obtain ⟨ad', h, _, hc⟩ := hr.2 h0
        injection h with h
        subst h
        exact hc j u hu
    obtain ⟨v', w', hrun, h2, h3, _, h5⟩ := run_append_own_at (P := P) w base t ty e i z size bytes ht hi hz hsize hby hzs hsz v n xs hown ad m c news hr.1 hcells h1 h63 hbytes hbase
    exact ⟨v', w', hrun, h2, h3, h5⟩
theorem wp_append_any {o : Oper} {a : Act} {K : Act → World → Prop} {Q : Exit → Act → World → Prop} (s x : Operand) (t : TypeId)
    (ho : o.op = .call { callee := .builtin .append, args := #[s, x], argTypes := #[t, t] })
    (base : Nat) (e : TypeId) (i : TypeInfo) (z : Value) (size bytes : Nat) (ht : P.underlying t = some (.slice e)) (hi : P.info? e = some i) (hz : i.zero = some z)
    (hsize : i.size = size) (hby : i.bytes = bytes) (hzs : z.cells.size = size) (hsz : 0 < size)
    (v : Value) (n : Nat) (xs : List Value) (hs : a.eval s = v) (hown : w.ownsRow base e size v n xs)
    (B : Nat) (A : Option Addr) (m c : Nat) (news : List Value) (hx : a.eval x = .slice A m c) (hr : Reads w B size A m news) (h1 : ∀ u ∈ news, u.oneCell' = true)
    (h63 : n + m ≤ maxLen) (hbytes : (n + m) * bytes ≤ 140737488355328) (hbase : base ≤ w.heap.size)
    (h : ∀ v' w', w'.ownsRow base e size v' (n + m) (xs ++ news) → w.grownBy w' v.ownBlock → (v'.ownBlock = v.ownBlock ∨ v'.ownBlock = some w.heap.size) → K (a.put o.dst v') w') : o.wp P a w K Q := by
  obtain ⟨v', w', hrun, h2, h3, h4⟩ := run_append_any (P := P) w base t o.type e i z size bytes ht hi hz hsize hby hzs hsz v n xs hown B A m c news hr h1 h63 hbytes hbase
  unfold Oper.wp execOp
  simp only [ho, resolve, invoke, builtin, Sem.run_bind, Sem.run_pure, Result.andThen_ok, List.map_toArray, List.map_cons, List.map_nil, hs, hx, hrun]
  exact h v' w' h2 h3 h4
theorem wpList_append_any {ops : Array Oper} {rest : List Oper} {o : Oper} {a : Act} {Q : Exit → Act → World → Prop} (hgd : o.guard = none) (s x : Operand) (t : TypeId)
    (ho : o.op = .call { callee := .builtin .append, args := #[s, x], argTypes := #[t, t] })
    (base : Nat) (e : TypeId) (i : TypeInfo) (z : Value) (size bytes : Nat) (ht : P.underlying t = some (.slice e)) (hi : P.info? e = some i) (hz : i.zero = some z)
    (hsize : i.size = size) (hby : i.bytes = bytes) (hzs : z.cells.size = size) (hsz : 0 < size)
    (v : Value) (n : Nat) (xs : List Value) (hs : a.eval s = v) (hown : w.ownsRow base e size v n xs)
    (B : Nat) (A : Option Addr) (m c : Nat) (news : List Value) (hx : a.eval x = .slice A m c) (hr : Reads w B size A m news) (h1 : ∀ u ∈ news, u.oneCell' = true)
    (h63 : n + m ≤ maxLen) (hbytes : (n + m) * bytes ≤ 140737488355328) (hbase : base ≤ w.heap.size)
    (h : ∀ v' w', w'.ownsRow base e size v' (n + m) (xs ++ news) → w.grownBy w' v.ownBlock → (v'.ownBlock = v.ownBlock ∨ v'.ownBlock = some w.heap.size) → wpList P ops Q rest (a.put o.dst v') w') : wpList P ops Q (o :: rest) a w :=
  wpList_plain hgd fun _ hK => wp_append_any w s x t ho base e i z size bytes ht hi hz hsize hby hzs hsz v n xs hs hown B A m c news hx hr h1 h63 hbytes hbase fun v' w' h2 h3 h4 => hK _ _ (h v' w' h2 h3 h4)
end
structure Blw (B : Nat) (w : World) where
  toW : World
  h : Below B w toW
instance (B : Nat) (w : World) : Inhabited (Blw B w) := ⟨⟨w, Below.refl B w⟩⟩
theorem wp_region_blw {P : Program} {id : Nat} {Q : Exit → Act → World → Prop} {a : Act} {w : World} {l : List Oper} (hm : P.follows .mixedOrders = true) (hB : Region.lexB .any l.toArray = true)
    (h : wpQuiet P l.toArray (fun w' => ∃ p : Blw w.heap.size w, w' = p.toW) (fun a' => ∀ w', (∃ p : Blw w.heap.size w, w' = p.toW) → Q .normal a' w') l a) : (Code.region id l.toArray true).wp P Q a w :=
  wp_region_quiet (C := fun w' => ∃ p : Blw w.heap.size w, w' = p.toW) hm hB ⟨⟨_, (Below.refl _ w).drew⟩, rfl⟩ (by simpa using h)
theorem Calls.blw_of {P : Program} {f : FuncId} {args : Array Value} {w : World} (p : Blw w.heap.size w) {v : Value}
    (h : Calls P f args p.toW fun e w' => e = .returned v ∧ Below p.toW.heap.size p.toW w') : Calls P f args p.toW fun e w'' => e = .returned v ∧ ∃ q : Blw w.heap.size w, w'' = q.toW :=
  h.mono fun _ _ ⟨he, hb⟩ => ⟨he, ⟨⟨_, p.h.trans (hb.mono p.h.size)⟩, rfl⟩⟩
theorem Calls.blw_of_same {P : Program} {f : FuncId} {args : Array Value} {w : World} (p : Blw w.heap.size w) {v : Value}
    (h : Calls P f args p.toW fun e w' => e = .returned v ∧ p.toW = w') : Calls P f args p.toW fun e w'' => e = .returned v ∧ ∃ q : Blw w.heap.size w, w'' = q.toW :=
  h.mono fun _ _ ⟨he, hb⟩ => ⟨he, ⟨p, hb.symm⟩⟩
theorem blw_cell {w : World} {a : Addr} {v : Value} (hb : a.block < w.heap.size) (h : w.cell? a = some v) (p : Blw w.heap.size w) : p.toW.cell? a = some v := (p.h.cell hb).trans h
theorem blw_blk {w : World} {g : Nat} {t : TypeId} {cs : Array Value} (h : Blk w g t cs) (p : Blw w.heap.size w) (i : Nat) : p.toW.cell? ⟨g, i, none⟩ = cs[i]? := (h.below p.h h.lt).cell i
theorem bcell {W w1 : World} (hb : Below W.heap.size W w1) : (∀ b o, b < W.heap.size → w1.cell? ⟨b, o, none⟩ = W.cell? ⟨b, o, none⟩) ∧ (∀ b o, b < W.heap.size → w1.frozen? ⟨b, o, none⟩ = W.frozen? ⟨b, o, none⟩) :=
  ⟨fun b o h => hb.cell (p := ⟨b, o, none⟩) h, fun b o h => hb.frozen (p := ⟨b, o, none⟩) h⟩
end
section
open Go.RowKit
/-- The slice value at A, of n elements of sz cells each, holds the cells xs, in a block below B. -/
def Rd (w : World) (B sz : Nat) (A : Option Addr) (n : Nat) (xs : List Value) : Prop :=
  xs.length = n * sz ∧ (0 < n → ∃ b off, A = some ⟨b, off, none⟩ ∧ b < B ∧ ∀ j u, xs[j]? = some u → w.cell? ⟨b, off + j, none⟩ = some u)
section
variable {w w' : World} {B B' sz n : Nat} {A : Option Addr} {xs : List Value}
theorem Rd.nil (w : World) (B sz : Nat) (A : Option Addr) : Rd w B sz A 0 [] := ⟨by simp, fun h => absurd h (by omega)⟩
theorem Rd.atm {α : Type} {zs : List α} {f : α → Value} {k : Nat} (h : Rd w B 1 A n (zs.map f)) (hk : k < n) : ∃ b off, ∃ hz : k < zs.length, A = some ⟨b, off, none⟩ ∧ b < B ∧ w.cell? ⟨b, off + k, none⟩ = some (f zs[k]) := by
  obtain ⟨b, off, e, hb, hc⟩ := h.2 (by omega)
  have hl : k < zs.length := by have := h.1; simp at this; omega
  exact ⟨b, off, hl, e, hb, hc k _ (by simp [hl])⟩
theorem Rd.len {α : Type} {zs : List α} {f : α → Value} (h : Rd w B 1 A n (zs.map f)) : zs.length = n := by simpa using h.1
theorem Rd.keep (h : Rd w B sz A n xs) (hk : ∀ p : Addr, p.block < B → w'.cell? p = w.cell? p) : Rd w' B sz A n xs :=
  ⟨h.1, fun hn => by
    obtain ⟨b, off, e, hb, hc⟩ := h.2 hn
    exact ⟨b, off, e, hb, fun j u hu => (hk _ hb).trans (hc j u hu)⟩⟩
theorem Rd.more (h : Rd w B sz A n xs) (hB : B ≤ B') : Rd w B' sz A n xs :=
  ⟨h.1, fun hn => by
    obtain ⟨b, off, e, hb, hc⟩ := h.2 hn
    exact ⟨b, off, e, by omega, hc⟩⟩
theorem Rd.below (h : Rd w B sz A n xs) (hb : Below B w w') : Rd w' B sz A n xs := h.keep fun _ hp => hb.cell hp
theorem Rd.drew (h : Rd w B sz A n xs) : Rd w.drew B sz A n xs := h
theorem Rd.drewN (h : Rd w B sz A n xs) (k : Nat) : Rd (w.drewN k) B sz A n xs := h
theorem Rd.alloc (h : Rd w B sz A n xs) (hB : B ≤ w.heap.size) (o : Obj) : Rd (w.alloc o) B sz A n xs := h.keep fun p hp => World.cell?_alloc_lt w o p (by omega)
theorem Rd.setCell (h : Rd w B sz A n xs) {p : Addr} (hB : B ≤ p.block) (u : Value) : Rd (w.setCell p u) B sz A n xs :=
  h.keep fun q hq => World.cell?_setCell_other w p q u (fun e => by subst e; omega)
theorem Rd.grown (h : Rd w B sz A n xs) {row : Option Nat} (hg : w.grownBy w' row) (hB : B ≤ w.heap.size) (hr : ∀ g, row = some g → B ≤ g) : Rd w' B sz A n xs :=
  h.keep fun p hp => World.cell?_of_block (hg.block p.block (by omega) (fun e => by have := hr _ e.symm; omega))
theorem Rd.cut (h : Rd w B sz A n xs) {k m cap : Nat} (hk : k ≤ m) (hm : m ≤ n) (hc : n ≤ cap) :
    Rd w B sz (if cap = k then A else A.map (·.add (k * sz))) (m - k) ((xs.drop (k * sz)).take ((m - k) * sz)) := by
  have hlen := h.1
  have e1 : (m - k) * sz ≤ n * sz - k * sz := by rw [← Nat.sub_mul]; exact Nat.mul_le_mul_right _ (by omega)
  refine ⟨by rw [List.length_take, List.length_drop, hlen]; omega, fun hn => ?_⟩
  obtain ⟨b, off, rfl, hb, hcell⟩ := h.2 (by omega)
  rw [if_neg (by omega)]
  refine ⟨b, off + k * sz, by simp [Addr.add], hb, fun j u hu => ?_⟩
  have hj : j < (m - k) * sz := by
    rcases Nat.lt_or_ge j ((m - k) * sz) with hj | hj
    · exact hj
    · rw [List.getElem?_eq_none (by rw [List.length_take]; omega)] at hu; cases hu
  rw [List.getElem?_take_of_lt hj, List.getElem?_drop] at hu
  rw [Nat.add_assoc]
  exact hcell _ u hu
theorem Rd.of_own {base : Nat} {e : TypeId} {c : Nat} (h : w.ownsRow base e sz (.slice A n c) n xs) : Rd w w.heap.size sz A n xs := by
  refine ⟨h.1, fun hn => ?_⟩
  obtain ⟨g, cap, hv, _, hlt⟩ := h.form hn
  have hA : A = some ⟨g, 0, none⟩ := by injection hv
  subst hA
  exact ⟨g, 0, rfl, hlt, fun j u hu => by
    have := h.cells (g := g) rfl j u hu
    simp only [Addr.add] at this
    split at this
    · rename_i h0; subst h0; exact this
    · exact this⟩
theorem Rd.reads (h : Rd w B sz A n xs) : Reads w B sz A n xs := ⟨h.1, fun hn => by
  obtain ⟨b, off, rfl, hb, hc⟩ := h.2 hn
  refine ⟨_, rfl, hb, fun j u hu => ?_⟩
  have := hc j u hu
  simp only [Addr.add]
  split
  · rename_i h0; subst h0; exact this
  · exact this⟩
/-- A literal slice of one-cell elements in a block of the call's own. -/
theorem Rd.blk {g : Nat} {t : TypeId} {cs : Array Value} (h : Blk w g t cs) (hn : n = cs.size) (hg : g < B) : Rd w B 1 (some ⟨g, 0, none⟩) n cs.toList :=
  ⟨by simp [hn], fun _ => ⟨g, 0, rfl, hg, fun j u hu => by rw [Nat.zero_add, h.cell j]; simpa using hu⟩⟩
end
/-- The letters of a string, as numbers. -/
def ltr (s : ByteArray) : List Int := s.data.toList.map fun b => (b.toNat : Int)
theorem ltr_len (s : ByteArray) : (ltr s).length = s.size := by simp [ltr]
theorem ltr_at (s : ByteArray) (k : Nat) (h : k < s.size) : (ltr s)[k]'(by rw [ltr_len]; exact h) = (s[k].toNat : Int) := by simp [ltr]; rfl
theorem ltr_take (s : ByteArray) (k : Nat) (h : k < s.size) : (ltr s).take (k + 1) = (ltr s).take k ++ [(s[k].toNat : Int)] := by
  rw [List.take_succ_eq_append_getElem (by rw [ltr_len]; exact h), ltr_at s k h]
theorem ltr_all (s : ByteArray) (k : Nat) (h : s.size ≤ k) : (ltr s).take k = ltr s := List.take_of_length_le (by rw [ltr_len]; exact h)
theorem ret_int {k : IntKind} {a b : Int} (h : a = b) : Ending.returned (.int k a) = .returned (.int k b) := by rw [h]
theorem ret_bool {a b : Bool} (h : a = b) : Ending.returned (.bool a) = .returned (.bool b) := by rw [h]
end
section
def Tryz.laysM171_ren : Go.Shelf.Ren := ⟨fun | 171 => 222 | 243 => 240 | 246 => 247 | 283 => 251 | 284 => 252 | 285 => 253 | 286 => 254 | 129 => 219 | 317 => 256 | 318 => 257 | 319 => 258 | 320 => 259 | 337 => 260 | 338 => 261 | n => n, fun | 3 => 3 | 9 => 9 | 2 => 2 | 4 => 4 | 171 => 299 | 0 => 0 | 53 => 264 | 37 => 89 | 5 => 5 | 173 => 301 | 212 => 309 | 51 => 261 | 20 => 20 | 213 => 310 | 46 => 177 | 232 => 311 | 233 => 312 | n => n, fun | 17 => 3 | 18 => 4 | 19 => 5 | n => n⟩
theorem Tryz.laysM171 : Go.Proofs.LaysM.n171 Tryz.prog Tryz.laysM171_ren := {
  mixed := by kernel_rfl
  f129 := Tryz.func219.trans (congrArg some (by kernel_rfl))
  f171 := Tryz.func222.trans (congrArg some (by kernel_rfl))
  f243 := Tryz.func240.trans (congrArg some (by kernel_rfl))
  f246 := Tryz.func247.trans (congrArg some (by kernel_rfl))
  f283 := Tryz.func251.trans (congrArg some (by kernel_rfl))
  f284 := Tryz.func252.trans (congrArg some (by kernel_rfl))
  f285 := Tryz.func253.trans (congrArg some (by kernel_rfl))
  f286 := Tryz.func254.trans (congrArg some (by kernel_rfl))
  f317 := Tryz.func256.trans (congrArg some (by kernel_rfl))
  f318 := Tryz.func257.trans (congrArg some (by kernel_rfl))
  f319 := Tryz.func258.trans (congrArg some (by kernel_rfl))
  f320 := Tryz.func259.trans (congrArg some (by kernel_rfl))
  f337 := Tryz.func260.trans (congrArg some (by kernel_rfl))
  f338 := Tryz.func261.trans (congrArg some (by kernel_rfl))
  t0 := Tryz.underlying0
  a0 := Tryz.isAgg0
  z0 := Tryz.sizeOf0
  v0 := Tryz.zeroValue0
  t2 := Tryz.underlying2
  a2 := Tryz.isAgg2
  z2 := Tryz.sizeOf2
  v2 := Tryz.zeroValue2
  t3 := Tryz.underlying3
  a3 := Tryz.isAgg3
  z3 := Tryz.sizeOf3
  v3 := Tryz.zeroValue3
  t4 := Tryz.underlying4
  a4 := Tryz.isAgg4
  z4 := Tryz.sizeOf4
  v4 := Tryz.zeroValue4
  t5 := Tryz.underlying5
  a5 := Tryz.isAgg5
  z5 := Tryz.sizeOf5
  v5 := Tryz.zeroValue5
  t9 := Tryz.underlying9
  a9 := Tryz.isAgg9
  z9 := Tryz.sizeOf9
  v9 := Tryz.zeroValue9
  t20 := Tryz.underlying20
  a20 := Tryz.isAgg20
  z20 := Tryz.sizeOf20
  v20 := Tryz.zeroValue20
  t37 := Tryz.underlying89
  a37 := Tryz.isAgg89
  z37 := Tryz.sizeOf89
  v37 := Tryz.zeroValue89
  t46 := Tryz.underlying177
  a46 := Tryz.isAgg177
  z46 := Tryz.sizeOf177
  v46 := Tryz.zeroValue177
  t51 := Tryz.underlying261
  a51 := Tryz.isAgg261
  z51 := Tryz.sizeOf261
  v51 := Tryz.zeroValue261
  t53 := Tryz.underlying264
  a53 := Tryz.isAgg264
  z53 := Tryz.sizeOf264
  v53 := Tryz.zeroValue264
  t171 := Tryz.underlying299
  a171 := Tryz.isAgg299
  z171 := Tryz.sizeOf299
  v171 := Tryz.zeroValue299
  t173 := Tryz.underlying301
  a173 := Tryz.isAgg301
  z173 := Tryz.sizeOf301
  v173 := Tryz.zeroValue301
  t212 := Tryz.underlying309
  a212 := Tryz.isAgg309
  z212 := Tryz.sizeOf309
  v212 := Tryz.zeroValue309
  t213 := Tryz.underlying310
  a213 := Tryz.isAgg310
  z213 := Tryz.sizeOf310
  t232 := Tryz.underlying311
  a232 := Tryz.isAgg311
  z232 := Tryz.sizeOf311
  v232 := Tryz.zeroValue311
  t233 := Tryz.underlying312
  a233 := Tryz.isAgg312
  z233 := Tryz.sizeOf312
  v233 := Tryz.zeroValue312
  g17 := by kernel_rfl
  g18 := by kernel_rfl
  g19 := by kernel_rfl
  i0 := by kernel_rfl
  i2 := by kernel_rfl
  i3 := by kernel_rfl
  i4 := by kernel_rfl
  i5 := by kernel_rfl
  i9 := by kernel_rfl
  i20 := by kernel_rfl
  i37 := by kernel_rfl
  i46 := by kernel_rfl
  i51 := by kernel_rfl
  i53 := by kernel_rfl
  i171 := by kernel_rfl
  i173 := by kernel_rfl
  i212 := by kernel_rfl
  i232 := by kernel_rfl
  i233 := by kernel_rfl
  m17 := by kernel_rfl
  m18 := by kernel_rfl
  m19 := by kernel_rfl }
open Go.RowKit Go.Sort Go.Lib in
theorem Tryz.strconv_Itoa (n : Int) (h0 : -9223372036854775808 ≤ n) (h1 : n ≤ 9223372036854775807) (w : World) (htab : Lib.TabIs Tryz.prog w "internal/strconv.uint64pow10" .u64 Lib.pow10Tab) :
    Calls Tryz.prog 222 #[.int .i64 n] w fun e w' => e = .returned (.string ⟨(Lib.itoa n).toArray⟩) ∧ ∃ k os, w' = grow (w.drewN k) os := Any.strconv_Itoa Tryz.laysM171 n h0 h1 w htab
end
section
open Go.RowKit
def inB (n lo hi : Int) : Bool := decide (lo ≤ n) && decide (n ≤ hi)
theorem in_any (n lo hi : Int) (w : World) :
    Calls Tryz.prog 99 #[.int .i64 n, .int .i64 lo, .int .i64 hi] w fun e w' => e = .returned (.bool (inB n lo hi)) ∧ w = w' := by
  unfold inB
  by_cases h : lo ≤ n
  all_goals
    go_enter Tryz.func99, Tryz.ntmps99
    go_wp2
    go_ret
    simp
    try omega
theorem within_any (n lo hi : Int) (w : World) :
    Calls Tryz.prog 130 #[.int .i64 n, .int .i64 lo, .int .i64 hi] w fun e w' => e = .returned (.bool (inB n lo hi)) ∧ w = w' := by
  unfold inB
  by_cases h : lo ≤ n
  all_goals
    go_enter Tryz.func130, Tryz.ntmps130
    go_wp2
    go_ret
    simp
    try omega
theorem goodAway_any (n : Int) (w : World) :
    Calls Tryz.prog 150 #[.int .i64 n] w fun e w' => e = .returned (.bool (inB n (-20) 20)) ∧ w = w' := by
  go_enter Tryz.func150, Tryz.ntmps150
  go_wp2_with (go_at_call 130; refine (within_any _ _ _ _).mono ?_; rintro e w' ⟨rfl, rfl⟩)
  go_ret
  simp
def stageB (W H F L X Y : Int) : Bool := inB W 1 16 && inB H 1 16 && inB F 2 40 && inB L 0 3 && inB X 0 W && inB Y 0 H
theorem goodStage_any (W H F L X Y : Int) (w : World) :
    Calls Tryz.prog 97 #[.agg #[.int .i64 W, .int .i64 H, .int .i64 F, .int .i64 L, .int .i64 X, .int .i64 Y]] w fun e w' => e = .returned (.bool (stageB W H F L X Y)) ∧ Below w.heap.size w w' := by
  unfold stageB
  cases h1 : inB W 1 16
  case' true => cases h2 : inB H 1 16
  case' true.true => cases h3 : inB F 2 40
  case' true.true.true => cases h4 : inB L 0 3
  case' true.true.true.true => cases h5 : inB X 0 W
  all_goals
    go_enter Tryz.func97, Tryz.ntmps97
    go_wp2_with (go_at_call 130; refine (within_any _ _ _ _).mono ?_; rintro e w' ⟨rfl, rfl⟩)
    go_ret
    refine ⟨by simp, (Below.refl _ _).alloc (Nat.le_refl _) _⟩
end
section
open Go.RowKit
/-- Where a number comes first in a list, or -1. -/
def idxOf (c : Int) : List Int → Nat → Int
  | [], _ => -1
  | z :: zs, k => if c == z then k else idxOf c zs (k + 1)
theorem idxOf_drop (c : Int) (zs : List Int) (k : Nat) (h : k < zs.length) : idxOf c (zs.drop k) k = if c == zs[k] then (k : Int) else idxOf c (zs.drop (k + 1)) (k + 1) := by
  rw [List.drop_eq_getElem_cons h, idxOf]
theorem bytesIndex_any (A : Option Addr) (n cap : Nat) (zs : List Int) (c : Int) (w : World) (B : Nat) (hn : n ≤ maxLen) (hr : Rd w B 1 A n (zs.map (Value.int .u8))) :
    Calls Tryz.prog 183 #[.slice A n cap, .int .u8 c] w fun e w' => e = .returned (.int .i64 (idxOf c zs 0)) ∧ w = w' := by
  have hz := hr.len
  unfold maxLen at hn
  go_enter Tryz.func183, Tryz.ntmps183
  go_wp2
  go_loop [8] (fun i => ∃ k : Nat, k ≤ n ∧ i = .int .i64 k ∧ idxOf c (zs.drop k) k = idxOf c zs 0) (fun i => n - (intOf i).toNat)
  case atStart => exact ⟨0, Nat.zero_le _, rfl, rfl⟩
  case round =>
    obtain ⟨k, hk, rfl, hi⟩ := hrel
    by_cases hlt : k < n
    · obtain ⟨b, off, hzk, rfl, hb, hc⟩ := hr.atm hlt
      have hi2 := idxOf_drop c zs k hzk
      have HI := Lib.hid hi; have HI2 := Lib.hid hi2; clear hi hi2
      cases he : (c == zs[k])
      · go_wp2
        go_round
        case rel => exact ⟨k + 1, by omega, by go_num, by rw [← HI.out, HI2.out, he]; rfl⟩
        case measure => simp [intOf]; omega
      · go_wp2
        go_ret
        exact ⟨ret_int (by rw [← HI.out, HI2.out, he]; rfl), rfl⟩
    · have hkn : zs.drop k = [] := List.drop_eq_nil_of_le (by omega)
      have HI := Lib.hid hi; have HK := Lib.hid hkn; clear hi hkn
      go_wp2
      go_ret
      exact ⟨ret_int (by rw [← HI.out, HK.out]; rfl), rfl⟩
end
section
open Go.RowKit
theorem mulB {x y : Int} {a b : Nat} (h1 : -(a : Int) ≤ x) (h2 : x ≤ a) (h3 : -(b : Int) ≤ y) (h4 : y ≤ b) : -((a * b : Nat) : Int) ≤ x * y ∧ x * y ≤ ((a * b : Nat) : Int) := by
  have h : (x * y).natAbs ≤ a * b := by rw [Int.natAbs_mul]; exact Nat.mul_le_mul (by omega) (by omega)
  omega
theorem bytesContains_any (A : Option Addr) (n cap : Nat) (zs : List Int) (c : Int) (w : World) (B : Nat) (hn : n ≤ maxLen) (hr : Rd w B 1 A n (zs.map (Value.int .u8))) :
    Calls Tryz.prog 149 #[.slice A n cap, .int .u8 c] w fun e w' => e = .returned (.bool (decide (0 ≤ idxOf c zs 0))) ∧ w = w' := by
  go_enter Tryz.func149, Tryz.ntmps149
  go_wp2_with (go_at_call 183; refine (bytesIndex_any _ _ _ _ _ _ _ hn hr).mono ?_; rintro e w' ⟨rfl, rfl⟩)
  go_ret
  simp
/-- How many letters of a string are one of some. -/
def cntL (l : List Int) (zs : List Int) : Nat := (l.filter fun b => decide (0 ≤ idxOf b zs 0)).length
theorem cntL_snoc (l : List Int) (b : Int) (zs : List Int) : cntL (l ++ [b]) zs = cntL l zs + (if decide (0 ≤ idxOf b zs 0) = true then 1 else 0) := by
  unfold cntL; rw [List.filter_append, List.length_append]; by_cases h : 0 ≤ idxOf b zs 0 <;> simp [h]
theorem cntL_le (l : List Int) (zs : List Int) : cntL l zs ≤ l.length := List.length_filter_le _ _
theorem count_any (s : ByteArray) (A : Option Addr) (n cap : Nat) (zs : List Int) (w : World) (B : Nat) (hs : s.size ≤ maxLen) (hn : n ≤ maxLen) (hr : Rd w B 1 A n (zs.map (Value.int .u8))) :
    Calls Tryz.prog 103 #[.string s, .slice A n cap] w fun e w' => e = .returned (.int .i64 (cntL (ltr s) zs)) ∧ w = w' := by
  unfold maxLen at hs
  go_enter Tryz.func103, Tryz.ntmps103
  go_wp2
  go_loop [5, 9] (fun t i => ∃ k : Nat, k ≤ s.size ∧ i = .int .i64 k ∧ t = .int .i64 (cntL ((ltr s).take k) zs)) (fun _ i => s.size - (intOf i).toNat)
  case atStart => exact ⟨0, Nat.zero_le _, rfl, rfl⟩
  case round =>
    obtain ⟨k, hk, rfl, rfl⟩ := hrel
    have hle := cntL_le ((ltr s).take k) zs
    have hl : ((ltr s).take k).length ≤ k := List.length_take_le _ _
    by_cases hlt : k < s.size
    · have hsn := cntL_snoc ((ltr s).take k) s[k].toNat zs
      rw [← ltr_take s k hlt] at hsn
      have HS := Lib.hid hsn; clear hsn
      cases he : decide (0 ≤ idxOf (s[k].toNat : Int) zs 0)
      all_goals
        go_wp2_with (go_at_call 149; refine (bytesContains_any _ _ _ _ _ _ _ hn hr).mono ?_; rintro e w' ⟨rfl, rfl⟩)
        go_round
        case rel => exact ⟨k + 1, by omega, by go_num, by rw [HS.out, he]; go_num⟩
        case measure => simp [intOf]; omega
    · go_wp2
      go_ret
      exact ⟨ret_int (by rw [ltr_all s k (by omega)]), rfl⟩
theorem Stage_any (W H F L X Y : Int) (w : World) :
    Calls Tryz.prog 27 #[.agg #[.int .i64 W, .int .i64 H, .int .i64 F, .int .i64 L, .int .i64 X, .int .i64 Y]] w fun e w' => e = .returned (.bool (stageB W H F L X Y)) ∧ Below w.heap.size w w' := by
  unfold stageB
  cases h1 : inB W 1 16
  case' true => cases h2 : inB H 1 16
  case' true.true => cases h3 : inB F 2 40
  case' true.true.true => cases h4 : inB L 0 3
  case' true.true.true.true => cases h5 : inB X 0 W
  all_goals
    go_enter Tryz.func27, Tryz.ntmps27
    go_wp2_with (go_at_call 99; refine (in_any _ _ _ _).mono ?_; rintro e w' ⟨rfl, rfl⟩)
    go_ret
    refine ⟨by simp, (Below.refl _ _).alloc (Nat.le_refl _) _⟩
def placeB (F N X Y : Int) : Bool := inB N 0 (F - 1) && inB X (-20) 20 && inB Y (-20) 20
theorem goodPlace_any (W H F L X Y N PX PY : Int) (w : World) (hF : 2 ≤ F) (hF2 : F ≤ 40) :
    Calls Tryz.prog 106 #[.agg #[.int .i64 W, .int .i64 H, .int .i64 F, .int .i64 L, .int .i64 X, .int .i64 Y], .agg #[.int .i64 N, .int .i64 PX, .int .i64 PY]] w fun e w' => e = .returned (.bool (placeB F N PX PY)) ∧ Below w.heap.size w w' := by
  unfold placeB
  cases h1 : inB N 0 (F - 1)
  case' true => cases h2 : inB PX (-20) 20
  all_goals
    go_enter Tryz.func106, Tryz.ntmps106
    go_wp2_with (first | (go_at_call 130; refine (within_any _ _ _ _).mono ?_; rintro e w' ⟨rfl, rfl⟩) | (go_at_call 150; refine (goodAway_any _ _).mono ?_; rintro e w' ⟨rfl, rfl⟩))
    go_ret
    refine ⟨by simp, ((Below.refl _ _).alloc (Nat.le_refl _) _).alloc (by simp) _⟩
def clB (a b : Int) : Bool := (a == 35 && b == 46) || (a == 46 && b == 35)
theorem clash_any (a b : Int) (w : World) : Calls Tryz.prog 163 #[.int .u8 a, .int .u8 b] w fun e w' => e = .returned (.bool (clB a b)) ∧ w = w' := by
  unfold clB
  cases h1 : (a == 35) <;> cases h2 : (b == 46) <;> cases h3 : (a == 46)
  all_goals
    go_enter Tryz.func163, Tryz.ntmps163
    go_wp2
    go_ret
    simp
/-- Where the shadow of a line is. -/
def lineV (ax F N x : Int) : Int := ax * (F - N) + (x - ax) * F
end
section
open Go.RowKit
theorem i64_ok (n : Int) (h : -9223372036854775808 ≤ n ∧ n ≤ 9223372036854775807) : IntKind.i64.wrap n = n := IntWalk.i64_in n h
theorem long_any (f e : Int) (b : Bool) (w : World) (h1 : 0 ≤ f) (h2 : f ≤ 100) (h3 : 0 ≤ e) (h4 : e ≤ 100) :
    Calls Tryz.prog 182 #[.agg #[.int .i64 f, .int .i64 e, .bool b]] w fun r w' => r = .returned (.int .i64 (e - f)) ∧ Below w.heap.size w w' := by
  go_enter Tryz.func182, Tryz.ntmps182
  go_wp2
  go_ret
  exact ⟨rfl, (Below.refl _ _).alloc (Nat.le_refl _) _⟩
theorem parts_any (W H F L X Y N PX PY : Int) (R : Value) (w : World) (h1 : 0 ≤ F) (h2 : F ≤ 100) (h3 : 0 ≤ N) (h4 : N ≤ 100) :
    Calls Tryz.prog 156 #[.agg #[.int .i64 W, .int .i64 H, .int .i64 F, .int .i64 L, .int .i64 X, .int .i64 Y, R, .int .i64 N, .int .i64 PX, .int .i64 PY]] w fun r w' => r = .returned (.int .i64 (F - N)) ∧ Below w.heap.size w w' := by
  go_enter Tryz.func156, Tryz.ntmps156
  go_wp2
  go_ret
  exact ⟨rfl, (Below.refl _ _).alloc (Nat.le_refl _) _⟩
theorem blur_any (W H F L X Y N PX PY : Int) (R : Value) (w : World) (h1 : 0 ≤ L) (h2 : L ≤ 100) (h3 : 0 ≤ N) (h4 : N ≤ 100) :
    Calls Tryz.prog 153 #[.agg #[.int .i64 W, .int .i64 H, .int .i64 F, .int .i64 L, .int .i64 X, .int .i64 Y, R, .int .i64 N, .int .i64 PX, .int .i64 PY]] w fun r w' => r = .returned (.int .i64 (L * N)) ∧ Below w.heap.size w w' := by
  obtain ⟨p1, p2⟩ := mulB (x := L) (y := N) (a := 100) (b := 100) (by omega) (by omega) (by omega) (by omega)
  go_enter Tryz.func153, Tryz.ntmps153
  go_wp2
  go_ret
  exact ⟨rfl, (Below.refl _ _).alloc (Nat.le_refl _) _⟩
theorem cloth_any (W H F L X Y N PX PY : Int) (R : Value) (w : World) :
    Calls Tryz.prog 155 #[.agg #[.int .i64 W, .int .i64 H, .int .i64 F, .int .i64 L, .int .i64 X, .int .i64 Y, R, .int .i64 N, .int .i64 PX, .int .i64 PY]] w fun r w' => r = .returned (.agg #[.int .i64 W, .int .i64 H]) ∧ Below w.heap.size w w' := by
  go_enter Tryz.func155, Tryz.ntmps155
  go_wp2
  refine bodyPost_ret (v := .agg #[.int .i64 W, .int .i64 H]) (by simp [results, Tryz.results155, go_sem]) rfl ⟨rfl, ?_⟩
  exact ((Below.refl _ _).alloc (Nat.le_refl _) _).alloc (by simp) _
theorem directions_any (w : World) :
    Calls Tryz.prog 152 #[] w fun r w' => r = .returned (.agg #[.func (.func 190) #[] #[], .func (.func 191) #[] #[]]) ∧ Below w.heap.size w w' := by
  go_enter Tryz.func152, Tryz.ntmps152
  go_wp2
  refine bodyPost_ret (v := .agg #[.func (.func 190) #[] #[], .func (.func 191) #[] #[]]) (by simp [results, Tryz.results152, go_sem]) rfl ⟨rfl, ?_⟩
  exact ((Below.refl _ _).alloc (Nat.le_refl _) _)
set_option maxHeartbeats 400000 in
theorem across_any (W H F L X Y N PX PY c : Int) (R : Value) (hR : R.oneCell' = true) (w : World) (x1 : 0 ≤ X) (x2 : X ≤ 100) (h1 : 0 ≤ F) (h2 : F ≤ 100) (h3 : 0 ≤ N) (h4 : N ≤ 100) (p1 : -100 ≤ PX) (p2 : PX ≤ 100) (c1 : 0 ≤ c) (c2 : c ≤ 100) :
    Calls Tryz.prog 190 #[.agg #[.int .i64 W, .int .i64 H, .int .i64 F, .int .i64 L, .int .i64 X, .int .i64 Y, R, .int .i64 N, .int .i64 PX, .int .i64 PY], .int .i64 c] w fun r w' => r = .returned (.int .i64 (lineV X F N (PX + c))) ∧ Below w.heap.size w w' := by
  obtain ⟨s1, s2⟩ := mulB (x := X) (y := F - N) (a := 100) (b := 200) (by omega) (by omega) (by omega) (by omega)
  obtain ⟨q1, q2⟩ := mulB (x := PX + c - X) (y := F) (a := 400) (b := 100) (by omega) (by omega) (by omega) (by omega)
  go_enter Tryz.func190, Tryz.ntmps190
  go_wp2
  obtain ⟨W1, hW1⟩ : ∃ W1 : World, W1 = w.alloc (.cells #[.int .i64 W, .int .i64 H, .int .i64 F, .int .i64 L, .int .i64 X, .int .i64 Y, R, .int .i64 N, .int .i64 PX, .int .i64 PY] 140) := ⟨_, rfl⟩
  rw [← hW1]
  have hblk : Blk W1 w.heap.size 140 #[.int .i64 W, .int .i64 H, .int .i64 F, .int .i64 L, .int .i64 X, .int .i64 Y, R, .int .i64 N, .int .i64 PX, .int .i64 PY] := by rw [hW1]; exact Blk.new _ _ _
  have hB : Below w.heap.size w W1 := by rw [hW1]; exact (Below.refl _ _).alloc (Nat.le_refl _) _
  clear hW1
  have hc := fun p i => blw_blk hblk p i
  have e1 := i64_ok (X * (F - N)) (by omega)
  have e2 := i64_ok (PX + c) (by omega)
  have e3 := i64_ok (PX + c - X) (by omega)
  have e4 := i64_ok ((PX + c - X) * F) (by omega)
  have e5 := i64_ok (X * (F - N) + (PX + c - X) * F) (by omega)
  refine wp_region_blw (by kernel_rfl) (by kernel_rfl) ?_
  repeat (quiet_step ((go_at_call 156; exact Calls.blw_of _ (parts_any _ _ _ _ _ _ _ _ _ _ _ h1 h2 h3 h4))))
  refine wpQuiet_nil ?_
  clear e1 e2 e3 e4 e5
  rintro _ ⟨p, rfl⟩
  go_wp2
  go_ret
  exact ⟨rfl, hB.trans (p.h.mono hB.size)⟩
set_option maxHeartbeats 400000 in
theorem down_any (W H F L X Y N PX PY c : Int) (R : Value) (hR : R.oneCell' = true) (w : World) (x1 : 0 ≤ Y) (x2 : Y ≤ 100) (h1 : 0 ≤ F) (h2 : F ≤ 100) (h3 : 0 ≤ N) (h4 : N ≤ 100) (p1 : -100 ≤ PY) (p2 : PY ≤ 100) (c1 : 0 ≤ c) (c2 : c ≤ 100) :
    Calls Tryz.prog 191 #[.agg #[.int .i64 W, .int .i64 H, .int .i64 F, .int .i64 L, .int .i64 X, .int .i64 Y, R, .int .i64 N, .int .i64 PX, .int .i64 PY], .int .i64 c] w fun r w' => r = .returned (.int .i64 (lineV Y F N (PY + c))) ∧ Below w.heap.size w w' := by
  obtain ⟨s1, s2⟩ := mulB (x := Y) (y := F - N) (a := 100) (b := 200) (by omega) (by omega) (by omega) (by omega)
  obtain ⟨q1, q2⟩ := mulB (x := PY + c - Y) (y := F) (a := 400) (b := 100) (by omega) (by omega) (by omega) (by omega)
  go_enter Tryz.func191, Tryz.ntmps191
  go_wp2
  obtain ⟨W1, hW1⟩ : ∃ W1 : World, W1 = w.alloc (.cells #[.int .i64 W, .int .i64 H, .int .i64 F, .int .i64 L, .int .i64 X, .int .i64 Y, R, .int .i64 N, .int .i64 PX, .int .i64 PY] 140) := ⟨_, rfl⟩
  rw [← hW1]
  have hblk : Blk W1 w.heap.size 140 #[.int .i64 W, .int .i64 H, .int .i64 F, .int .i64 L, .int .i64 X, .int .i64 Y, R, .int .i64 N, .int .i64 PX, .int .i64 PY] := by rw [hW1]; exact Blk.new _ _ _
  have hB : Below w.heap.size w W1 := by rw [hW1]; exact (Below.refl _ _).alloc (Nat.le_refl _) _
  clear hW1
  have hc := fun p i => blw_blk hblk p i
  have e1 := i64_ok (Y * (F - N)) (by omega)
  have e2 := i64_ok (PY + c) (by omega)
  have e3 := i64_ok (PY + c - Y) (by omega)
  have e4 := i64_ok ((PY + c - Y) * F) (by omega)
  have e5 := i64_ok (Y * (F - N) + (PY + c - Y) * F) (by omega)
  refine wp_region_blw (by kernel_rfl) (by kernel_rfl) ?_
  repeat (quiet_step ((go_at_call 156; exact Calls.blw_of _ (parts_any _ _ _ _ _ _ _ _ _ _ _ h1 h2 h3 h4))))
  refine wpQuiet_nil ?_
  clear e1 e2 e3 e4 e5
  rintro _ ⟨p, rfl⟩
  go_wp2
  go_ret
  exact ⟨rfl, hB.trans (p.h.mono hB.size)⟩
end
section
open Go.RowKit
def scanN (p : Nat → Bool) : Nat → Nat → Nat
  | 0, t => t
  | f + 1, t => if p t then scanN p f (t + 1) else t
theorem scanN_le (p : Nat → Bool) : ∀ (f t : Nat), t ≤ scanN p f t ∧ scanN p f t ≤ t + f
  | 0, t => by simp [scanN]
  | f + 1, t => by
    unfold scanN
    split
    · have := scanN_le p f (t + 1); omega
    · omega
theorem scanN_go (p : Nat → Bool) (f t n : Nat) (hf : f = n - t) (h : t < n) (hp : p t = true) : scanN p f t = scanN p (n - (t + 1)) (t + 1) := by
  subst hf
  rw [show n - t = (n - (t + 1)) + 1 from by omega, scanN, hp, if_pos rfl]
theorem scanN_stop (p : Nat → Bool) (f t : Nat) (h : p t = false ∨ f = 0) : scanN p f t = t := by
  cases f with
  | zero => rfl
  | succ f => rcases h with h | h
              · rw [scanN, h]; rfl
              · cases h
/-- The first column, and the one behind the last, of which a cell gets shadows; and whether nothing beside the figure does. -/
def lowV (F N L k : Int) : Int := k * (F - N) - L * N
def highV (F N L k : Int) : Int := (k + 1) * (F - N) + L * N
def firstS (ax F N P lo : Int) (sz : Nat) : Nat := scanN (fun t => decide (lineV ax F N (P + (t + 1)) ≤ lo)) sz 0
def endS (ax F N P lo hi : Int) (sz : Nat) : Nat := scanN (fun t => decide (lineV ax F N (P + t) < hi)) (sz - firstS ax F N P lo sz) (firstS ax F N P lo sz)
def insideS (ax F N P lo hi : Int) (sz : Nat) : Bool := decide (lineV ax F N P ≤ lo) && decide (hi ≤ lineV ax F N (P + sz))
set_option maxHeartbeats 1600000 in
theorem strip_across (W H F L X Y N PX PY : Int) (R : Value) (hR : R.oneCell' = true) (sz k : Nat) (w : World) (x1 : 0 ≤ X) (x2 : X ≤ 100) (h1 : 0 ≤ F) (h2 : F ≤ 100) (h3 : 0 ≤ N) (h4 : N ≤ 100) (h5 : 0 ≤ L) (h6 : L ≤ 100)
    (p1 : -50 ≤ PX) (p2 : PX ≤ 50) (c1 : sz ≤ 50) (c2 : k ≤ 50) :
    Calls Tryz.prog 181 #[.agg #[.int .i64 W, .int .i64 H, .int .i64 F, .int .i64 L, .int .i64 X, .int .i64 Y, R, .int .i64 N, .int .i64 PX, .int .i64 PY], .func (.func 190) #[] #[], .int .i64 sz, .int .i64 k] w
      fun r w' => r = .returned (.agg #[.int .i64 (firstS X F N PX (lowV F N L k) sz), .int .i64 (endS X F N PX (lowV F N L k) (highV F N L k) sz), .bool (insideS X F N PX (lowV F N L k) (highV F N L k) sz)]) ∧ Below w.heap.size w w' := by
  obtain ⟨s1, s2⟩ := mulB (x := (k : Int)) (y := F - N) (a := 100) (b := 200) (by omega) (by omega) (by omega) (by omega)
  obtain ⟨q1, q2⟩ := mulB (x := (k : Int) + 1) (y := F - N) (a := 100) (b := 200) (by omega) (by omega) (by omega) (by omega)
  obtain ⟨r1, r2⟩ := mulB (x := L) (y := N) (a := 100) (b := 100) (by omega) (by omega) (by omega) (by omega)
  go_enter Tryz.func181, Tryz.ntmps181
  go_wp2
  obtain ⟨W1, hW1⟩ : ∃ W1 : World, W1 = (w.alloc (.cells #[.int .i64 W, .int .i64 H, .int .i64 F, .int .i64 L, .int .i64 X, .int .i64 Y, R, .int .i64 N, .int .i64 PX, .int .i64 PY] 140)).alloc (.cells #[.int .i64 0, .int .i64 0, .bool false] 191) := ⟨_, rfl⟩
  rw [← hW1]
  have hblk : Blk W1 w.heap.size 140 #[.int .i64 W, .int .i64 H, .int .i64 F, .int .i64 L, .int .i64 X, .int .i64 Y, R, .int .i64 N, .int .i64 PX, .int .i64 PY] := by rw [hW1]; exact (Blk.new _ _ _).alloc _
  have hres : Blk W1 (w.heap.size + 1) 191 #[.int .i64 0, .int .i64 0, .bool false] := by rw [hW1]; have := Blk.new (w.alloc (.cells #[.int .i64 W, .int .i64 H, .int .i64 F, .int .i64 L, .int .i64 X, .int .i64 Y, R, .int .i64 N, .int .i64 PX, .int .i64 PY] 140)) 191 #[.int .i64 0, .int .i64 0, .bool false]; simpa using this
  have hB : Below w.heap.size w W1 := by rw [hW1]; exact ((Below.refl _ _).alloc (Nat.le_refl _) _).alloc (by simp) _
  clear hW1
  have hc := fun p i => blw_blk hblk p i
  have e1 := i64_ok ((k : Int) * (F - N)) (by omega)
  have e2 := i64_ok ((k : Int) * (F - N) - L * N) (by omega)
  refine wp_region_blw (by kernel_rfl) (by kernel_rfl) ?_
  repeat (quiet_step (first | (go_at_call 156; exact Calls.blw_of _ (parts_any _ _ _ _ _ _ _ _ _ _ _ h1 h2 h3 h4)) | (go_at_call 153; exact Calls.blw_of _ (blur_any _ _ _ _ _ _ _ _ _ _ _ h5 h6 h3 h4))))
  clear e1 e2
  refine wpQuiet_nil ?_
  rintro W2 ⟨⟨_, hb2⟩, rfl⟩
  replace hblk := hblk.below hb2 hblk.lt
  replace hres := hres.below hb2 hres.lt
  replace hB := hB.trans (hb2.mono hB.size)
  clear hb2 hc
  go_wp2
  have hc := fun p i => blw_blk hblk p i
  have e3 := i64_ok ((k : Int) + 1) (by omega)
  have e1 := i64_ok (((k : Int) + 1) * (F - N)) (by omega)
  have e2 := i64_ok (((k : Int) + 1) * (F - N) + L * N) (by omega)
  refine wp_region_blw (by kernel_rfl) (by kernel_rfl) ?_
  repeat (quiet_step (first | (go_at_call 156; exact Calls.blw_of _ (parts_any _ _ _ _ _ _ _ _ _ _ _ h1 h2 h3 h4)) | (go_at_call 153; exact Calls.blw_of _ (blur_any _ _ _ _ _ _ _ _ _ _ _ h5 h6 h3 h4))))
  clear e1 e2 e3
  refine wpQuiet_nil ?_
  rintro W3 ⟨⟨_, hb3⟩, rfl⟩
  replace hblk := hblk.below hb3 hblk.lt
  replace hres := hres.below hb3 hres.lt
  replace hB := hB.trans (hb3.mono hB.size)
  clear hb3 hc
  have hlow : (k : Int) * (F - N) - L * N = lowV F N L k := rfl
  have hhigh : ((k : Int) + 1) * (F - N) + L * N = highV F N L k := rfl
  rw [hlow, hhigh]
  generalize hlo : lowV F N L k = lo
  generalize hhi : highV F N L k = hi
  have HLO := Lib.hid hlo; have HHI := Lib.hid hhi; clear hlo hhi hlow hhigh s1 s2 q1 q2 r1 r2
  have hc := fun i => hblk.cell i
  have hg := hblk.lt
  have hg2 := hres.lt
  go_upto_region 3 with (fail)
  go_cut [11] (fun v wx => ∃ g : Nat, v = .pointer (some ⟨g, 0, none⟩) ∧ Blk wx g 191 #[.int .i64 0, .int .i64 0, .bool (insideS X F N PX lo hi sz)] ∧
    Blk wx w.heap.size 140 #[.int .i64 W, .int .i64 H, .int .i64 F, .int .i64 L, .int .i64 X, .int .i64 Y, R, .int .i64 N, .int .i64 PX, .int .i64 PY] ∧ Blk wx (w.heap.size + 1) 191 #[.int .i64 0, .int .i64 0, .bool false] ∧ w.heap.size + 1 < g ∧ Below w.heap.size w wx)
  case first =>
    have hin : insideS X F N PX lo hi sz = (decide (lineV X F N PX ≤ lo) && decide (hi ≤ lineV X F N (PX + sz))) := rfl
    have HIN := Lib.hid hin; clear hin
    have hT := Below.refl W3.heap.size W3
    cases i1 : decide (lineV X F N PX ≤ lo)
    all_goals
      go_wp2_with (go_at_call 190; refine (across_any _ _ _ _ _ _ _ _ _ _ _ hR _ x1 x2 h1 h2 h3 h4 (by omega) (by omega) (by omega) (by omega)).mono ?_; rintro e w1 ⟨rfl, hb⟩; replace hT := hT.trans (hb.mono hT.size); obtain ⟨hcc, hff⟩ := bcell hT)
      go_meet
      have hz := hT.size
      have hz2 := hB.size
      refine ⟨_, rfl, ?_, (hblk.below hT hg).alloc _, (hres.below hT hg2).alloc _, by omega, (hB.trans (hT.mono hB.size)).alloc (by omega) _⟩
      rw [HIN.out, i1]
      exact Blk.new _ _ _
  case rest =>
    obtain ⟨g, rfl, hbx, hblk, hres, hgt, hB⟩ := hcut
    go_upto_block 0 with (fail)
    go_cut [] (fun wx => Blk wx g 191 #[.int .i64 (firstS X F N PX lo sz), .int .i64 0, .bool (insideS X F N PX lo hi sz)] ∧ Blk wx w.heap.size 140 #[.int .i64 W, .int .i64 H, .int .i64 F, .int .i64 L, .int .i64 X, .int .i64 Y, R, .int .i64 N, .int .i64 PX, .int .i64 PY] ∧ Blk wx (w.heap.size + 1) 191 #[.int .i64 0, .int .i64 0, .bool false] ∧ Below w.heap.size w wx)
    case first =>
      go_wp2_with (fail)
      go_loopg [] sz (fun n wr => ∃ t : Nat, n = sz - t ∧ t ≤ sz ∧ scanN (fun t => decide (lineV X F N (PX + (t + 1)) ≤ lo)) n t = firstS X F N PX lo sz ∧ Blk wr g 191 #[.int .i64 t, .int .i64 0, .bool (insideS X F N PX lo hi sz)] ∧
        Blk wr w.heap.size 140 #[.int .i64 W, .int .i64 H, .int .i64 F, .int .i64 L, .int .i64 X, .int .i64 Y, R, .int .i64 N, .int .i64 PX, .int .i64 PY] ∧ Blk wr (w.heap.size + 1) 191 #[.int .i64 0, .int .i64 0, .bool false] ∧ Below w.heap.size w wr)
      case atStart => exact ⟨0, rfl, Nat.zero_le _, rfl, hbx, hblk, hres, hB⟩
      case round =>
        clear hbx hblk hres hB
        obtain ⟨t, hn, htl, hsc, hbx, hblk, hres, hB⟩ := hrel
        have HN := Lib.hid hn; have HS := Lib.hid hsc; clear hn hsc
        have hcx := fun i => hbx.cell i
        have hcv := fun i => hblk.cell i
        have hfx := fun i => hbx.frozen i
        have hg := hblk.lt
        have hg2 := hbx.lt
        have hT := Below.refl wr.heap.size wr
        by_cases hts : t < sz
        · cases hp : decide (lineV X F N (PX + (t + 1)) ≤ lo)
          · go_wp2_with (go_at_call 190; refine (across_any _ _ _ _ _ _ _ _ _ _ _ hR _ x1 x2 h1 h2 h3 h4 (by omega) (by omega) (by omega) (by omega)).mono ?_; rintro e w1 ⟨rfl, hb⟩; replace hT := hT.trans (hb.mono hT.size); obtain ⟨hcc, hff⟩ := bcell hT)
            go_meet
            have he : t = firstS X F N PX lo sz := by rw [← HS.out]; exact (scanN_stop _ _ _ (.inl hp)).symm
            exact ⟨by rw [← he]; exact hbx.below hT hg2, hblk.below hT hg, hres.below hT hres.lt, hB.trans (hT.mono hB.size)⟩
          · go_wp2_with (go_at_call 190; refine (across_any _ _ _ _ _ _ _ _ _ _ _ hR _ x1 x2 h1 h2 h3 h4 (by omega) (by omega) (by omega) (by omega)).mono ?_; rintro e w1 ⟨rfl, hb⟩; replace hT := hT.trans (hb.mono hT.size); obtain ⟨hcc, hff⟩ := bcell hT)
            go_roundg (sz - (t + 1))
            case measure => rw [HN.out]; omega
            case rel => exact ⟨t + 1, rfl, by omega, by rw [← HS.out]; exact (scanN_go _ _ _ _ HN.out hts hp).symm, (hbx.below hT hg2).set_ 0 _, (hblk.below hT hg).far (p := ⟨g, 0, none⟩) (by show _ ≠ g; omega) _, (hres.below hT hres.lt).far (p := ⟨g, 0, none⟩) (by show _ ≠ g; omega) _, (hB.trans (hT.mono hB.size)).setCell (p := ⟨g, 0, none⟩) (by show _ ≤ g; omega) _⟩
        · go_wp2
          go_meet
          have he : t = firstS X F N PX lo sz := by rw [← HS.out]; exact (scanN_stop _ _ _ (.inr (by rw [HN.out]; omega))).symm
          exact ⟨by rw [← he]; exact hbx, hblk, hres, hB⟩
    case rest =>
      clear hbx hblk hres hB
      obtain ⟨hbx, hblk, hres, hB⟩ := hcut
      generalize hfi : firstS X F N PX lo sz = fi
      have hfle : fi ≤ sz := by rw [← hfi]; have := scanN_le (fun t => decide (lineV X F N (PX + (t + 1)) ≤ lo)) sz 0; unfold firstS; omega
      rw [hfi] at hbx
      have HFI := Lib.hid hfi; clear hfi
      have hcx := fun i => hbx.cell i
      have hfx := fun i => hbx.frozen i
      have hg2 := hbx.lt
      go_upto_block 2 with (fail)
      go_cut [] (fun wx => Blk wx g 191 #[.int .i64 fi, .int .i64 (endS X F N PX lo hi sz), .bool (insideS X F N PX lo hi sz)] ∧ Blk wx (w.heap.size + 1) 191 #[.int .i64 0, .int .i64 0, .bool false] ∧ Below w.heap.size w wx)
      case first =>
        clear hcx hfx
        go_wp2_with (fail)
        go_loopg [] (sz - fi) (fun n wr => ∃ t : Nat, n = sz - t ∧ t ≤ sz ∧ scanN (fun t => decide (lineV X F N (PX + t) < hi)) n t = endS X F N PX lo hi sz ∧ Blk wr g 191 #[.int .i64 fi, .int .i64 t, .bool (insideS X F N PX lo hi sz)] ∧
          Blk wr w.heap.size 140 #[.int .i64 W, .int .i64 H, .int .i64 F, .int .i64 L, .int .i64 X, .int .i64 Y, R, .int .i64 N, .int .i64 PX, .int .i64 PY] ∧ Blk wr (w.heap.size + 1) 191 #[.int .i64 0, .int .i64 0, .bool false] ∧ Below w.heap.size w wr)
        case atStart => exact ⟨fi, rfl, hfle, by unfold endS; rw [HFI.out], hbx.set_ 1 _, hblk.far (p := ⟨g, 1, none⟩) (by show _ ≠ g; omega) _, hres.far (p := ⟨g, 1, none⟩) (by show _ ≠ g; omega) _, hB.setCell (p := ⟨g, 1, none⟩) (by show _ ≤ g; omega) _⟩
        case round =>
          clear hbx hblk hres hB hg2
          obtain ⟨t, hn, htl, hsc, hbx, hblk, hres, hB⟩ := hrel
          have HN := Lib.hid hn; have HS := Lib.hid hsc; clear hn hsc
          have hcx := fun i => hbx.cell i
          have hcv := fun i => hblk.cell i
          have hfx := fun i => hbx.frozen i
          have hg := hblk.lt
          have hg2 := hbx.lt
          have hT := Below.refl wr.heap.size wr
          by_cases hts : t < sz
          · cases hp : decide (lineV X F N (PX + t) < hi)
            · go_wp2_with (go_at_call 190; refine (across_any _ _ _ _ _ _ _ _ _ _ _ hR _ x1 x2 h1 h2 h3 h4 (by omega) (by omega) (by omega) (by omega)).mono ?_; rintro e w1 ⟨rfl, hb⟩; replace hT := hT.trans (hb.mono hT.size); obtain ⟨hcc, hff⟩ := bcell hT)
              go_meet
              have he : t = endS X F N PX lo hi sz := by rw [← HS.out]; exact (scanN_stop _ _ _ (.inl hp)).symm
              exact ⟨by rw [← he]; exact hbx.below hT hg2, hres.below hT hres.lt, hB.trans (hT.mono hB.size)⟩
            · go_wp2_with (go_at_call 190; refine (across_any _ _ _ _ _ _ _ _ _ _ _ hR _ x1 x2 h1 h2 h3 h4 (by omega) (by omega) (by omega) (by omega)).mono ?_; rintro e w1 ⟨rfl, hb⟩; replace hT := hT.trans (hb.mono hT.size); obtain ⟨hcc, hff⟩ := bcell hT)
              go_roundg (sz - (t + 1))
              case measure => rw [HN.out]; omega
              case rel => exact ⟨t + 1, rfl, by omega, by rw [← HS.out]; exact (scanN_go _ _ _ _ HN.out hts hp).symm, (hbx.below hT hg2).set_ 1 _, (hblk.below hT hg).far (p := ⟨g, 1, none⟩) (by show _ ≠ g; omega) _, (hres.below hT hres.lt).far (p := ⟨g, 1, none⟩) (by show _ ≠ g; omega) _, (hB.trans (hT.mono hB.size)).setCell (p := ⟨g, 1, none⟩) (by show _ ≤ g; omega) _⟩
          · go_wp2
            go_meet
            have he : t = endS X F N PX lo hi sz := by rw [← HS.out]; exact (scanN_stop _ _ _ (.inr (by rw [HN.out]; omega))).symm
            exact ⟨by rw [← he]; exact hbx, hres, hB⟩
      case rest =>
        clear hbx hblk hres hB hcx hfx hg2
        obtain ⟨hbx, hres, hB⟩ := hcut
        have hcx := fun i => hbx.cell i
        have hcr := fun i => hres.cell i
        have hfr := fun i => hres.frozen i
        have hg := hres.lt
        go_wp2
        refine bodyPost_ret (v := .agg #[.int .i64 fi, .int .i64 (endS X F N PX lo hi sz), .bool (insideS X F N PX lo hi sz)]) ?_ rfl ⟨?_, ?_⟩
        · simp [results, Tryz.results181, go_sem, hg, hcr]
        · rw [HLO.out, HHI.out, ← HFI.out]
        · repeat (first | exact hB | refine Below.setCell ?_ (by simp) _)
set_option maxHeartbeats 1600000 in
theorem strip_down (W H F L X Y N PX PY : Int) (R : Value) (hR : R.oneCell' = true) (sz k : Nat) (w : World) (x1 : 0 ≤ Y) (x2 : Y ≤ 100) (h1 : 0 ≤ F) (h2 : F ≤ 100) (h3 : 0 ≤ N) (h4 : N ≤ 100) (h5 : 0 ≤ L) (h6 : L ≤ 100)
    (p1 : -50 ≤ PY) (p2 : PY ≤ 50) (c1 : sz ≤ 50) (c2 : k ≤ 50) :
    Calls Tryz.prog 181 #[.agg #[.int .i64 W, .int .i64 H, .int .i64 F, .int .i64 L, .int .i64 X, .int .i64 Y, R, .int .i64 N, .int .i64 PX, .int .i64 PY], .func (.func 191) #[] #[], .int .i64 sz, .int .i64 k] w
      fun r w' => r = .returned (.agg #[.int .i64 (firstS Y F N PY (lowV F N L k) sz), .int .i64 (endS Y F N PY (lowV F N L k) (highV F N L k) sz), .bool (insideS Y F N PY (lowV F N L k) (highV F N L k) sz)]) ∧ Below w.heap.size w w' := by
  obtain ⟨s1, s2⟩ := mulB (x := (k : Int)) (y := F - N) (a := 100) (b := 200) (by omega) (by omega) (by omega) (by omega)
  obtain ⟨q1, q2⟩ := mulB (x := (k : Int) + 1) (y := F - N) (a := 100) (b := 200) (by omega) (by omega) (by omega) (by omega)
  obtain ⟨r1, r2⟩ := mulB (x := L) (y := N) (a := 100) (b := 100) (by omega) (by omega) (by omega) (by omega)
  go_enter Tryz.func181, Tryz.ntmps181
  go_wp2
  obtain ⟨W1, hW1⟩ : ∃ W1 : World, W1 = (w.alloc (.cells #[.int .i64 W, .int .i64 H, .int .i64 F, .int .i64 L, .int .i64 X, .int .i64 Y, R, .int .i64 N, .int .i64 PX, .int .i64 PY] 140)).alloc (.cells #[.int .i64 0, .int .i64 0, .bool false] 191) := ⟨_, rfl⟩
  rw [← hW1]
  have hblk : Blk W1 w.heap.size 140 #[.int .i64 W, .int .i64 H, .int .i64 F, .int .i64 L, .int .i64 X, .int .i64 Y, R, .int .i64 N, .int .i64 PX, .int .i64 PY] := by rw [hW1]; exact (Blk.new _ _ _).alloc _
  have hres : Blk W1 (w.heap.size + 1) 191 #[.int .i64 0, .int .i64 0, .bool false] := by rw [hW1]; have := Blk.new (w.alloc (.cells #[.int .i64 W, .int .i64 H, .int .i64 F, .int .i64 L, .int .i64 X, .int .i64 Y, R, .int .i64 N, .int .i64 PX, .int .i64 PY] 140)) 191 #[.int .i64 0, .int .i64 0, .bool false]; simpa using this
  have hB : Below w.heap.size w W1 := by rw [hW1]; exact ((Below.refl _ _).alloc (Nat.le_refl _) _).alloc (by simp) _
  clear hW1
  have hc := fun p i => blw_blk hblk p i
  have e1 := i64_ok ((k : Int) * (F - N)) (by omega)
  have e2 := i64_ok ((k : Int) * (F - N) - L * N) (by omega)
  refine wp_region_blw (by kernel_rfl) (by kernel_rfl) ?_
  repeat (quiet_step (first | (go_at_call 156; exact Calls.blw_of _ (parts_any _ _ _ _ _ _ _ _ _ _ _ h1 h2 h3 h4)) | (go_at_call 153; exact Calls.blw_of _ (blur_any _ _ _ _ _ _ _ _ _ _ _ h5 h6 h3 h4))))
  clear e1 e2
  refine wpQuiet_nil ?_
  rintro W2 ⟨⟨_, hb2⟩, rfl⟩
  replace hblk := hblk.below hb2 hblk.lt
  replace hres := hres.below hb2 hres.lt
  replace hB := hB.trans (hb2.mono hB.size)
  clear hb2 hc
  go_wp2
  have hc := fun p i => blw_blk hblk p i
  have e3 := i64_ok ((k : Int) + 1) (by omega)
  have e1 := i64_ok (((k : Int) + 1) * (F - N)) (by omega)
  have e2 := i64_ok (((k : Int) + 1) * (F - N) + L * N) (by omega)
  refine wp_region_blw (by kernel_rfl) (by kernel_rfl) ?_
  repeat (quiet_step (first | (go_at_call 156; exact Calls.blw_of _ (parts_any _ _ _ _ _ _ _ _ _ _ _ h1 h2 h3 h4)) | (go_at_call 153; exact Calls.blw_of _ (blur_any _ _ _ _ _ _ _ _ _ _ _ h5 h6 h3 h4))))
  clear e1 e2 e3
  refine wpQuiet_nil ?_
  rintro W3 ⟨⟨_, hb3⟩, rfl⟩
  replace hblk := hblk.below hb3 hblk.lt
  replace hres := hres.below hb3 hres.lt
  replace hB := hB.trans (hb3.mono hB.size)
  clear hb3 hc
  have hlow : (k : Int) * (F - N) - L * N = lowV F N L k := rfl
  have hhigh : ((k : Int) + 1) * (F - N) + L * N = highV F N L k := rfl
  rw [hlow, hhigh]
  generalize hlo : lowV F N L k = lo
  generalize hhi : highV F N L k = hi
  have HLO := Lib.hid hlo; have HHI := Lib.hid hhi; clear hlo hhi hlow hhigh s1 s2 q1 q2 r1 r2
  have hc := fun i => hblk.cell i
  have hg := hblk.lt
  have hg2 := hres.lt
  go_upto_region 3 with (fail)
  go_cut [11] (fun v wx => ∃ g : Nat, v = .pointer (some ⟨g, 0, none⟩) ∧ Blk wx g 191 #[.int .i64 0, .int .i64 0, .bool (insideS Y F N PY lo hi sz)] ∧
    Blk wx w.heap.size 140 #[.int .i64 W, .int .i64 H, .int .i64 F, .int .i64 L, .int .i64 X, .int .i64 Y, R, .int .i64 N, .int .i64 PX, .int .i64 PY] ∧ Blk wx (w.heap.size + 1) 191 #[.int .i64 0, .int .i64 0, .bool false] ∧ w.heap.size + 1 < g ∧ Below w.heap.size w wx)
  case first =>
    have hin : insideS Y F N PY lo hi sz = (decide (lineV Y F N PY ≤ lo) && decide (hi ≤ lineV Y F N (PY + sz))) := rfl
    have HIN := Lib.hid hin; clear hin
    have hT := Below.refl W3.heap.size W3
    cases i1 : decide (lineV Y F N PY ≤ lo)
    all_goals
      go_wp2_with (go_at_call 191; refine (down_any _ _ _ _ _ _ _ _ _ _ _ hR _ x1 x2 h1 h2 h3 h4 (by omega) (by omega) (by omega) (by omega)).mono ?_; rintro e w1 ⟨rfl, hb⟩; replace hT := hT.trans (hb.mono hT.size); obtain ⟨hcc, hff⟩ := bcell hT)
      go_meet
      have hz := hT.size
      have hz2 := hB.size
      refine ⟨_, rfl, ?_, (hblk.below hT hg).alloc _, (hres.below hT hg2).alloc _, by omega, (hB.trans (hT.mono hB.size)).alloc (by omega) _⟩
      rw [HIN.out, i1]
      exact Blk.new _ _ _
  case rest =>
    obtain ⟨g, rfl, hbx, hblk, hres, hgt, hB⟩ := hcut
    go_upto_block 0 with (fail)
    go_cut [] (fun wx => Blk wx g 191 #[.int .i64 (firstS Y F N PY lo sz), .int .i64 0, .bool (insideS Y F N PY lo hi sz)] ∧ Blk wx w.heap.size 140 #[.int .i64 W, .int .i64 H, .int .i64 F, .int .i64 L, .int .i64 X, .int .i64 Y, R, .int .i64 N, .int .i64 PX, .int .i64 PY] ∧ Blk wx (w.heap.size + 1) 191 #[.int .i64 0, .int .i64 0, .bool false] ∧ Below w.heap.size w wx)
    case first =>
      go_wp2_with (fail)
      go_loopg [] sz (fun n wr => ∃ t : Nat, n = sz - t ∧ t ≤ sz ∧ scanN (fun t => decide (lineV Y F N (PY + (t + 1)) ≤ lo)) n t = firstS Y F N PY lo sz ∧ Blk wr g 191 #[.int .i64 t, .int .i64 0, .bool (insideS Y F N PY lo hi sz)] ∧
        Blk wr w.heap.size 140 #[.int .i64 W, .int .i64 H, .int .i64 F, .int .i64 L, .int .i64 X, .int .i64 Y, R, .int .i64 N, .int .i64 PX, .int .i64 PY] ∧ Blk wr (w.heap.size + 1) 191 #[.int .i64 0, .int .i64 0, .bool false] ∧ Below w.heap.size w wr)
      case atStart => exact ⟨0, rfl, Nat.zero_le _, rfl, hbx, hblk, hres, hB⟩
      case round =>
        clear hbx hblk hres hB
        obtain ⟨t, hn, htl, hsc, hbx, hblk, hres, hB⟩ := hrel
        have HN := Lib.hid hn; have HS := Lib.hid hsc; clear hn hsc
        have hcx := fun i => hbx.cell i
        have hcv := fun i => hblk.cell i
        have hfx := fun i => hbx.frozen i
        have hg := hblk.lt
        have hg2 := hbx.lt
        have hT := Below.refl wr.heap.size wr
        by_cases hts : t < sz
        · cases hp : decide (lineV Y F N (PY + (t + 1)) ≤ lo)
          · go_wp2_with (go_at_call 191; refine (down_any _ _ _ _ _ _ _ _ _ _ _ hR _ x1 x2 h1 h2 h3 h4 (by omega) (by omega) (by omega) (by omega)).mono ?_; rintro e w1 ⟨rfl, hb⟩; replace hT := hT.trans (hb.mono hT.size); obtain ⟨hcc, hff⟩ := bcell hT)
            go_meet
            have he : t = firstS Y F N PY lo sz := by rw [← HS.out]; exact (scanN_stop _ _ _ (.inl hp)).symm
            exact ⟨by rw [← he]; exact hbx.below hT hg2, hblk.below hT hg, hres.below hT hres.lt, hB.trans (hT.mono hB.size)⟩
          · go_wp2_with (go_at_call 191; refine (down_any _ _ _ _ _ _ _ _ _ _ _ hR _ x1 x2 h1 h2 h3 h4 (by omega) (by omega) (by omega) (by omega)).mono ?_; rintro e w1 ⟨rfl, hb⟩; replace hT := hT.trans (hb.mono hT.size); obtain ⟨hcc, hff⟩ := bcell hT)
            go_roundg (sz - (t + 1))
            case measure => rw [HN.out]; omega
            case rel => exact ⟨t + 1, rfl, by omega, by rw [← HS.out]; exact (scanN_go _ _ _ _ HN.out hts hp).symm, (hbx.below hT hg2).set_ 0 _, (hblk.below hT hg).far (p := ⟨g, 0, none⟩) (by show _ ≠ g; omega) _, (hres.below hT hres.lt).far (p := ⟨g, 0, none⟩) (by show _ ≠ g; omega) _, (hB.trans (hT.mono hB.size)).setCell (p := ⟨g, 0, none⟩) (by show _ ≤ g; omega) _⟩
        · go_wp2
          go_meet
          have he : t = firstS Y F N PY lo sz := by rw [← HS.out]; exact (scanN_stop _ _ _ (.inr (by rw [HN.out]; omega))).symm
          exact ⟨by rw [← he]; exact hbx, hblk, hres, hB⟩
    case rest =>
      clear hbx hblk hres hB
      obtain ⟨hbx, hblk, hres, hB⟩ := hcut
      generalize hfi : firstS Y F N PY lo sz = fi
      have hfle : fi ≤ sz := by rw [← hfi]; have := scanN_le (fun t => decide (lineV Y F N (PY + (t + 1)) ≤ lo)) sz 0; unfold firstS; omega
      rw [hfi] at hbx
      have HFI := Lib.hid hfi; clear hfi
      have hcx := fun i => hbx.cell i
      have hfx := fun i => hbx.frozen i
      have hg2 := hbx.lt
      go_upto_block 2 with (fail)
      go_cut [] (fun wx => Blk wx g 191 #[.int .i64 fi, .int .i64 (endS Y F N PY lo hi sz), .bool (insideS Y F N PY lo hi sz)] ∧ Blk wx (w.heap.size + 1) 191 #[.int .i64 0, .int .i64 0, .bool false] ∧ Below w.heap.size w wx)
      case first =>
        clear hcx hfx
        go_wp2_with (fail)
        go_loopg [] (sz - fi) (fun n wr => ∃ t : Nat, n = sz - t ∧ t ≤ sz ∧ scanN (fun t => decide (lineV Y F N (PY + t) < hi)) n t = endS Y F N PY lo hi sz ∧ Blk wr g 191 #[.int .i64 fi, .int .i64 t, .bool (insideS Y F N PY lo hi sz)] ∧
          Blk wr w.heap.size 140 #[.int .i64 W, .int .i64 H, .int .i64 F, .int .i64 L, .int .i64 X, .int .i64 Y, R, .int .i64 N, .int .i64 PX, .int .i64 PY] ∧ Blk wr (w.heap.size + 1) 191 #[.int .i64 0, .int .i64 0, .bool false] ∧ Below w.heap.size w wr)
        case atStart => exact ⟨fi, rfl, hfle, by unfold endS; rw [HFI.out], hbx.set_ 1 _, hblk.far (p := ⟨g, 1, none⟩) (by show _ ≠ g; omega) _, hres.far (p := ⟨g, 1, none⟩) (by show _ ≠ g; omega) _, hB.setCell (p := ⟨g, 1, none⟩) (by show _ ≤ g; omega) _⟩
        case round =>
          clear hbx hblk hres hB hg2
          obtain ⟨t, hn, htl, hsc, hbx, hblk, hres, hB⟩ := hrel
          have HN := Lib.hid hn; have HS := Lib.hid hsc; clear hn hsc
          have hcx := fun i => hbx.cell i
          have hcv := fun i => hblk.cell i
          have hfx := fun i => hbx.frozen i
          have hg := hblk.lt
          have hg2 := hbx.lt
          have hT := Below.refl wr.heap.size wr
          by_cases hts : t < sz
          · cases hp : decide (lineV Y F N (PY + t) < hi)
            · go_wp2_with (go_at_call 191; refine (down_any _ _ _ _ _ _ _ _ _ _ _ hR _ x1 x2 h1 h2 h3 h4 (by omega) (by omega) (by omega) (by omega)).mono ?_; rintro e w1 ⟨rfl, hb⟩; replace hT := hT.trans (hb.mono hT.size); obtain ⟨hcc, hff⟩ := bcell hT)
              go_meet
              have he : t = endS Y F N PY lo hi sz := by rw [← HS.out]; exact (scanN_stop _ _ _ (.inl hp)).symm
              exact ⟨by rw [← he]; exact hbx.below hT hg2, hres.below hT hres.lt, hB.trans (hT.mono hB.size)⟩
            · go_wp2_with (go_at_call 191; refine (down_any _ _ _ _ _ _ _ _ _ _ _ hR _ x1 x2 h1 h2 h3 h4 (by omega) (by omega) (by omega) (by omega)).mono ?_; rintro e w1 ⟨rfl, hb⟩; replace hT := hT.trans (hb.mono hT.size); obtain ⟨hcc, hff⟩ := bcell hT)
              go_roundg (sz - (t + 1))
              case measure => rw [HN.out]; omega
              case rel => exact ⟨t + 1, rfl, by omega, by rw [← HS.out]; exact (scanN_go _ _ _ _ HN.out hts hp).symm, (hbx.below hT hg2).set_ 1 _, (hblk.below hT hg).far (p := ⟨g, 1, none⟩) (by show _ ≠ g; omega) _, (hres.below hT hres.lt).far (p := ⟨g, 1, none⟩) (by show _ ≠ g; omega) _, (hB.trans (hT.mono hB.size)).setCell (p := ⟨g, 1, none⟩) (by show _ ≤ g; omega) _⟩
          · go_wp2
            go_meet
            have he : t = endS Y F N PY lo hi sz := by rw [← HS.out]; exact (scanN_stop _ _ _ (.inr (by rw [HN.out]; omega))).symm
            exact ⟨by rw [← he]; exact hbx, hres, hB⟩
      case rest =>
        clear hbx hblk hres hB hcx hfx hg2
        obtain ⟨hbx, hres, hB⟩ := hcut
        have hcx := fun i => hbx.cell i
        have hcr := fun i => hres.cell i
        have hfr := fun i => hres.frozen i
        have hg := hres.lt
        go_wp2
        refine bodyPost_ret (v := .agg #[.int .i64 fi, .int .i64 (endS Y F N PY lo hi sz), .bool (insideS Y F N PY lo hi sz)]) ?_ rfl ⟨?_, ?_⟩
        · simp [results, Tryz.results181, go_sem, hg, hcr]
        · rw [HLO.out, HHI.out, ← HFI.out]
        · repeat (first | exact hB | refine Below.setCell ?_ (by simp) _)
end
section
open Go.RowKit
def cutA (A : Option Addr) (cap k sz : Nat) : Option Addr := if cap = k then A else A.map (·.add (k * sz))
theorem run_slice_cut {P : Program} (t e : TypeId) (sz : Nat) (ht : P.underlying t = some (.slice e)) (hs : ∀ w, (sizeOf e).run P w = .ok sz w) (A : Option Addr) (n cap : Nat) (kl kh : IntKind) (l h : Nat) (h1 : l ≤ h) (h2 : h ≤ cap) (w : World) :
    (Instr.slice t (.slice A n cap) (some (.int kl l)) (some (.int kh h)) none).run P w = .ok (.slice (cutA A cap l sz) (h - l) (cap - l)) w := by
  have e1 : 0 ≤ (h : Int) ∧ (h : Int) ≤ (cap : Int) := by omega
  have e2 : 0 ≤ (l : Int) ∧ (l : Int) ≤ (h : Int) := by omega
  simp [Instr.slice, run_underlying ht, Instr.sliceBounds, Instr.sliceBound, asIntOf, hs, cutA, h1, h2]
theorem Rd.cutA' {w : World} {B sz n : Nat} {A : Option Addr} {xs : List Value} (h : Rd w B sz A n xs) {k m cap : Nat} (hk : k ≤ m) (hm : m ≤ n) (hc : n ≤ cap) :
    Rd w B sz (cutA A cap k sz) (m - k) ((xs.drop (k * sz)).take ((m - k) * sz)) := h.cut hk hm hc
/-- How many # the rows f to e have in the columns c to d. -/
def sumL (rows : List ByteArray) (c d : Nat) : Nat := (rows.map fun r => cntL (ltr (r.extract c d)) [35]).sum
theorem sumL_snoc (rows : List ByteArray) (r : ByteArray) (c d : Nat) : sumL (rows ++ [r]) c d = sumL rows c d + cntL (ltr (r.extract c d)) [35] := by
  simp [sumL]
theorem sumL_le (rows : List ByteArray) (c d m : Nat) (h : ∀ r ∈ rows, r.size ≤ m) : sumL rows c d ≤ rows.length * m := by
  induction rows with
  | nil => simp [sumL]
  | cons r rows ih =>
    have h1 := ih (fun x hx => h x (by simp [hx]))
    have h2 := cntL_le (ltr (r.extract c d)) [35]
    rw [ltr_len, ByteArray.size_extract] at h2
    have h3 := h r (by simp)
    simp only [sumL, List.map_cons, List.sum_cons, List.length_cons] at *
    rw [Nat.succ_mul]
    omega
def toneS (rows : List ByteArray) (c d : Nat) (ci : Bool) (f e : Nat) (ri : Bool) : Int :=
  if sumL ((rows.drop f).take (e - f)) c d = 0 then 46
  else if ci && ri && decide (sumL ((rows.drop f).take (e - f)) c d = (d - c) * (e - f)) then 35 else 43
set_option maxHeartbeats 2000000 in
theorem tone_any (W H F L X Y N PX PY : Int) (A : Option Addr) (n cap : Nat) (rows : List ByteArray) (wd c d f e : Nat) (ci ri : Bool) (w : World) (hr : Rd w w.heap.size 1 A n (rows.map Value.string)) (hcap : n ≤ cap) (hn : n ≤ 50) (hcm : cap ≤ maxLen)
    (hw : ∀ r ∈ rows, r.size = wd) (hwd : wd ≤ 50) (hc : c ≤ d) (hd : d ≤ wd) (hf : f ≤ e) (he : e ≤ n) :
    Calls Tryz.prog 148 #[.agg #[.int .i64 W, .int .i64 H, .int .i64 F, .int .i64 L, .int .i64 X, .int .i64 Y, .slice A n cap, .int .i64 N, .int .i64 PX, .int .i64 PY],
      .agg #[.int .i64 c, .int .i64 d, .bool ci], .agg #[.int .i64 f, .int .i64 e, .bool ri]] w
      fun r w' => r = .returned (.int .u8 (toneS rows c d ci f e ri)) ∧ Below w.heap.size w w' := by
  have hz := hr.len
  unfold maxLen at hcm
  have hsl := run_slice_cut (P := Tryz.prog) 24 9 1 Tryz.underlying24 (fun _ => by kernel_rfl) A n cap .i64 .i64 f e hf (by omega)
  have hr2 := hr.cutA' hf he hcap
  generalize hA2 : cutA A cap f 1 = A2 at hsl hr2
  clear hA2
  rw [Nat.mul_one, Nat.mul_one, ← List.map_drop, ← List.map_take] at hr2
  have hsum : toneS rows c d ci f e ri = if sumL ((rows.drop f).take (e - f)) c d = 0 then 46 else if ci && ri && decide (sumL ((rows.drop f).take (e - f)) c d = (d - c) * (e - f)) then 35 else 43 := rfl
  have hsub : ∀ r ∈ (rows.drop f).take (e - f), r.size = wd := fun r hr => hw r (List.mem_of_mem_drop (List.mem_of_mem_take hr))
  have hz2 := hr2.len
  generalize hrs : (rows.drop f).take (e - f) = rs at hr2 hsum hsub hz2
  have HSUM := Lib.hid hsum; have HZ := Lib.hid hz2; clear hsum hrs hz2 hz hr
  obtain ⟨m, hm⟩ : ∃ m, m = e - f := ⟨_, rfl⟩
  have hme : m ≤ 50 := by omega
  rw [← hm] at hr2 hsl
  have HM := Lib.hid hm; clear hm
  go_enter Tryz.func148, Tryz.ntmps148
  go_wp2
  go_loopg [7, 19] m (fun g t i wr => ∃ k : Nat, g = m - k ∧ k ≤ m ∧ i = .int .i64 k ∧ t = .int .i64 (sumL (rs.take k) c d) ∧ Below w.heap.size w wr ∧
    Blk wr (w.heap.size + 1) 191 #[.int .i64 c, .int .i64 d, .bool ci] ∧ Blk wr (w.heap.size + 1 + 1) 191 #[.int .i64 f, .int .i64 e, .bool ri])
  case atStart =>
    refine ⟨0, rfl, Nat.zero_le _, rfl, rfl, (((Below.refl _ _).alloc (Nat.le_refl _) _).alloc (by simp) _).alloc (by simp; omega) _, ?_, ?_⟩
    · exact ((World.size_alloc w _) ▸ Blk.new (w.alloc _) 191 #[.int .i64 c, .int .i64 d, .bool ci]).alloc _
    · have := Blk.new ((w.alloc (Obj.cells #[.int .i64 W, .int .i64 H, .int .i64 F, .int .i64 L, .int .i64 X, .int .i64 Y, .slice A n cap, .int .i64 N, .int .i64 PX, .int .i64 PY] 140)).alloc (Obj.cells #[.int .i64 c, .int .i64 d, .bool ci] 191)) 191 #[.int .i64 f, .int .i64 e, .bool ri]
      simpa using this
  case round =>
    obtain ⟨k, hg, hk, rfl, rfl, hB, hbc, hbr⟩ := hrel
    have HG := Lib.hid hg; clear hg
    have hcc := fun i => hbc.cell i
    have hcr := fun i => hbr.cell i
    have hlc := hbc.lt
    have hlr := hbr.lt
    have hle := sumL_le (rs.take k) c d 50 (fun r hr => by rw [hsub r (List.mem_of_mem_take hr)]; exact hwd)
    have hlt2 : (rs.take k).length ≤ k := List.length_take_le _ _
    have hle2 : sumL (rs.take k) c d ≤ 2500 := Nat.le_trans hle (Nat.le_trans (Nat.mul_le_mul_right 50 (Nat.le_trans hlt2 (Nat.le_trans hk hme))) (by decide))
    clear hle hlt2
    by_cases hlt : k < m
    · obtain ⟨b, off, hzk, rfl, hb, hcell⟩ := (hr2.below hB).atm hlt
      have hrsz := hsub rs[k] (List.getElem_mem hzk)
      have hin : d ≤ rs[k].size := by omega
      have hcl := cntL_le (ltr (rs[k].extract c d)) [35]
      rw [ltr_len, ByteArray.size_extract] at hcl
      have hcl2 : cntL (ltr (rs[k].extract c d)) [35] ≤ 100 := by omega
      have hsn := sumL_snoc (rs.take k) rs[k] c d
      rw [← List.take_succ_eq_append_getElem hzk] at hsn
      have HS := Lib.hid hsn; have HRS := Lib.hid hrsz; clear hsn hrsz hcl
      have hexs : (rs[k].extract c d).size ≤ maxLen := by rw [ByteArray.size_extract]; unfold maxLen; omega
      go_wp2_with (go_at_call 103; refine (count_any _ _ 1 1 [35] _ (wr.heap.size + 1) hexs (by decide) (Rd.blk (Blk.new _ _ _) rfl (by simp))).mono ?_; rintro e w1 ⟨rfl, rfl⟩)
      go_roundg (m - (k + 1))
      case measure => rw [HG.out]; omega
      case rel => exact ⟨k + 1, rfl, by omega, by go_num, by rw [HS.out]; go_num, hB.alloc hB.size _, hbc.alloc _, hbr.alloc _⟩
    · have hkm : rs.take k = rs := List.take_of_length_le (by rw [HZ.out]; have := HM.out; omega)
      rw [hkm] at hle2 ⊢
      have hprod : (((d - c) * (e - f) : Nat) : Int) = ((d : Int) - c) * ((e : Int) - f) := by rw [Int.natCast_mul, Int.ofNat_sub hc, Int.ofNat_sub hf]
      generalize sumL rs c d = s0 at HSUM hle2 ⊢
      have HP := Lib.hid hprod; clear hprod hkm
      have hlt' : ¬ ((k : Int) < (m : Int)) := by omega
      have h0c : (0 : Int) ≤ c := by omega
      obtain ⟨q1, q2⟩ := mulB (x := (d : Int) - c) (y := (e : Int) - f) (a := 100) (b := 100) (by omega) (by omega) (by omega) (by omega)
      cases hz0 : ((s0 : Int) == 0)
      · have hz1 : ¬ (s0 = 0) := by intro h; subst h; simp at hz0
        clear hr2 hsub hle2 hcc hcr
        cases hq : ((s0 : Int) == ((d : Int) - c) * ((e : Int) - f)) <;> cases ci <;> cases ri
        all_goals
          go_wp2_with (fail)
          have hbb := fun p i => blw_blk hbc p i
          have hbb2 := fun p i => blw_blk hbr p i
          refine wp_region_blw (by kernel_rfl) (by kernel_rfl) ?_
          repeat (go_big_quiet_step ((go_at_call 182; exact Calls.blw_of _ (long_any _ _ _ _ (by omega) (by omega) (by omega) (by omega)))))
          refine wpQuiet_nil ?_
          rintro W3 ⟨⟨_, hb3⟩, rfl⟩
          clear hbb hbb2
          go_wp2_with (fail)
          go_ret
          refine ⟨?_, hB.trans (hb3.mono hB.size)⟩
          rw [HSUM.out, if_neg hz1]
          have HPo := HP.out
          simp only [beq_iff_eq, beq_eq_false_iff_ne, ne_eq] at hq
          first
            | (rw [if_neg (by simp only [Bool.false_and, Bool.and_false, Bool.false_eq_true, not_false_eq_true])]; rfl)
            | (rw [if_neg (by simp only [Bool.true_and, decide_eq_true_eq]; omega)]; rfl)
            | (rw [if_pos (by simp only [Bool.true_and, decide_eq_true_eq]; omega)]; rfl)
      · have hz1 : s0 = 0 := by simpa using hz0
        go_wp2_with (fail)
        go_ret
        exact ⟨by rw [HSUM.out, if_pos hz1]; rfl, hB⟩
end
section
open Go.RowKit
section
variable {P : Program} {ops : Array Oper} {md : Region.Mode} {Q : Exit → Act → World → Prop} {T : World → Prop} {L : Nat}
def wpG (P : Program) (md : Region.Mode) (ops : Array Oper) (Q : Exit → Act → World → Prop) (T : World → Prop) (L : Nat) : Nat → Array Bool → Act → World → Prop
  | 0, listed, a, w => Region.ready md ops listed = [] ∧ Q .normal a w
  | fuel + 1, listed, a, w =>
    (Region.ready md ops listed = [] → Q .normal a w) ∧
    ∀ i ∈ Region.ready md ops listed, wpOp P ops Q i (fun a' w' => (i = L ∨ T w') ∧ wpG P md ops Q T L fuel (listed.setIfInBounds i true) a' w') a w
theorem wpAny_of_wpG : ∀ (fuel : Nat) (listed : Array Bool) (a : Act) (w : World), wpG P md ops Q T L fuel listed a w → wpAny P md ops Q fuel listed a w
  | 0, _, _, _, h => h
  | fuel + 1, _, _, _, h => ⟨h.1, fun i hi => wpOp_mono (fun a' w' h' => wpAny_of_wpG fuel _ a' w' h'.2) (h.2 i hi)⟩
theorem wpG_first {i : Nat} {oi oL : Oper} {v : Value} (hi : ops[i]? = some oi) (hoL : ops[L]? = some oL) (hLi : ∃ e ∈ oL.after, Region.binds md e = true ∧ e.on = i) (hsel : ∀ (j : Nat) (o : Oper) cs b, ops[j]? = some o → o.op ≠ .select cs b)
    (hQ : ∀ c a w, Q (.panic c) (a.put oi.dst v) w → Q (.panic c) a w) :
    ∀ (fuel : Nat) (listed : Array Bool) (a : Act) (w : World),
      (∀ j oj, ops[j]? = some oj → j ≠ i → listed.getD j true = false → (∀ e ∈ oj.after, Region.binds md e = true → e.on ≠ i) → oi.apart ops oj = true) →
      i ∈ Region.ready md ops listed → YieldsIf P ops T oi v a → T w →
      wpG P md ops Q T L fuel (listed.setIfInBounds i true) (a.put oi.dst v) w → wpG P md ops Q T L (fuel + 1) listed a w := by
  intro fuel
  induction fuel with
  | zero =>
    intro listed a w _ hr hy hS H
    refine ⟨fun h => (by rw [h] at hr; cases hr), fun j hj => ?_⟩
    by_cases hji : j = i
    · subst hji; exact hy.wpOp hi hS ⟨.inr hS, H⟩
    · have := ready_mono hj hji
      rw [H.1] at this
      cases this
  | succ fuel ih =>
    intro listed a w hfree hr hy hS H
    refine ⟨fun h => (by rw [h] at hr; cases hr), fun j hj => ?_⟩
    by_cases hji : j = i
    · subst hji; exact hy.wpOp hi hS ⟨.inr hS, H⟩
    · have h1 := H.2 j (ready_mono hj hji)
      obtain ⟨hjun, oj, hoj, hall⟩ := mem_ready.1 hj
      have hnot : ∀ e ∈ oj.after, Region.binds md e = true → e.on ≠ i := fun e he hb heq => by
        have h1 := hall e he hb
        have h0 := (mem_ready.1 hr).1
        rw [heq] at h1
        rcases Nat.lt_or_ge i listed.size with h' | h'
        · simp [h'] at h0 h1; rw [h0] at h1; cases h1
        · simp [Array.getElem?_eq_none h'] at h1
      have hjL : j ≠ L := fun e => by
        subst e
        obtain rfl : oj = oL := Option.some.inj (hoj.symm.trans hoL)
        obtain ⟨e, he, hb, hon⟩ := hLi
        exact hnot e he hb hon
      have h2 := wpOp_putIf hoj (hfree j oj hoj hji hjun hnot) (fun cs b => hsel i oi cs b hi) (fun cs b => hsel j oj cs b hoj) hQ hy h1
      have hfree' : ∀ k ok, ops[k]? = some ok → k ≠ i → (listed.setIfInBounds j true).getD k true = false →
          (∀ e ∈ ok.after, Region.binds md e = true → e.on ≠ i) → oi.apart ops ok = true := fun k ok hk hki hun hno => by
        refine hfree k ok hk hki ?_ hno
        by_cases hjk : j = k
        · subst hjk; exact hjun
        · rw [getD_set_ne true hjk] at hun; exact hun
      refine wpOp_mono (fun a' w' h3 => ?_) h2
      have hT : T w' := h3.2.1.resolve_left hjL
      refine ⟨.inr hT, ih (listed.setIfInBounds j true) a' w' hfree' (ready_mono hr (Ne.symm hji)) h3.1 hT ?_⟩
      rw [Array.setIfInBounds_comm _ _ hji]
      exact h3.2.2
def lastWaits (md : Region.Mode) (ops : Array Oper) (L i : Nat) : Bool :=
  match ops[L]? with
  | some o => o.after.any fun e => Region.binds md e && e.on == i
  | none => false
theorem lastWaits_spec {i : Nat} (h : lastWaits md ops L i = true) : ∃ oL, ops[L]? = some oL ∧ ∃ e ∈ oL.after, Region.binds md e = true ∧ e.on = i := by
  unfold lastWaits at h
  split at h
  · rename_i o ho
    obtain ⟨e, he, hb⟩ := Array.any_eq_true'.1 h
    simp only [Bool.and_eq_true, beq_iff_eq] at hb
    exact ⟨o, ho, e, he, hb.1, hb.2⟩
  · cases h
/-- Number i may come first: it only looks at what T tells. -/
theorem wpG_take {i : Nat} {oi : Oper} {v : Value} {fuel : Nat} {listed : Array Bool} {a : Act} {w : World} (hi : ops[i]? = some oi)
    (hs : Region.noSelect ops = true) (hf : Region.free md ops listed i = true) (hr : (Region.ready md ops listed).contains i = true) (hl : lastWaits md ops L i = true)
    (hQ : ∀ c a w, Q (.panic c) (a.put oi.dst v) w → Q (.panic c) a w) (hy : YieldsIf P ops T oi v a) (hS : T w)
    (h : wpG P md ops Q T L fuel (listed.setIfInBounds i true) (a.put oi.dst v) w) : wpG P md ops Q T L (fuel + 1) listed a w := by
  obtain ⟨oL, hoL, hLi⟩ := lastWaits_spec hl
  exact wpG_first hi hoL hLi (Region.noSelect_spec hs) hQ fuel listed a w (Region.free_spec hi hf) (by simpa using hr) hy hS h
/-- Number i alone may come up. -/
theorem wpG_one {i : Nat} {o : Oper} {fuel : Nat} {listed : Array Bool} {a : Act} {w : World} (hi : ops[i]? = some o) (hr : Region.ready md ops listed = [i])
    (h : ∀ K : Act → World → Prop, (∀ a w, (i = L ∨ T w) → wpG P md ops Q T L fuel (listed.setIfInBounds i true) a w → K a w) → if Region.wanted o (yielded ops a.tmps) = true then Oper.wp P o a w K Q else K (a.put o.dst undef) w) :
    wpG P md ops Q T L (fuel + 1) listed a w := by
  refine ⟨fun h0 => (by rw [hr] at h0; cases h0), fun j hj => ?_⟩
  rw [hr] at hj
  obtain rfl : j = i := by simpa using hj
  exact wpOp_step hi fun K hK => h K fun a w h1 h2 => hK a w ⟨h1, h2⟩
theorem wpG_done {listed : Array Bool} {a : Act} {w : World} (hr : Region.ready md ops listed = []) (h : Q .normal a w) : ∀ fuel, wpG P md ops Q T L fuel listed a w
  | 0 => ⟨hr, h⟩
  | _ + 1 => ⟨fun _ => h, by rw [hr]; simp⟩
theorem wp_region_G {id : Nat} {a : Act} {w : World} (T : World → Prop) (L : Nat) (hm : P.follows .mixedOrders = true)
    (h : wpG P .any ops Q T L ops.size (Array.replicate ops.size false) a w.drew) : (Code.region id ops true).wp P Q a w :=
  wp_region_any hm (wpAny_of_wpG _ _ _ _ h)
end
end
section
open Go.RowKit
set_option maxHeartbeats 400000 in
theorem size_any (W H F L X Y N PX PY : Int) (A : Option Addr) (n cap : Nat) (rows : List ByteArray) (w : World) (hr : Rd w w.heap.size 1 A n (rows.map Value.string)) (hn : 0 < n) (hn2 : n ≤ 50) (wd : Nat) (hw : ∀ r ∈ rows, r.size = wd) :
    Calls Tryz.prog 154 #[.agg #[.int .i64 W, .int .i64 H, .int .i64 F, .int .i64 L, .int .i64 X, .int .i64 Y, .slice A n cap, .int .i64 N, .int .i64 PX, .int .i64 PY]] w
      fun r w' => r = .returned (.agg #[.int .i64 wd, .int .i64 n]) ∧ Below w.heap.size w w' := by
  obtain ⟨b, off, hz, rfl, hb, hc⟩ := hr.atm hn
  have hsz := hw rows[0] (List.getElem_mem hz)
  rw [Nat.add_zero] at hc
  have hn' : (0 : Int) < (n : Int) := by omega
  generalize rows[0] = r0 at hc hsz
  subst hsz
  go_enter Tryz.func154, Tryz.ntmps154
  go_wp2
  go_region
  all_goals
    go_wp2
    refine bodyPost_ret (v := .agg #[.int .i64 r0.size, .int .i64 n]) (by simp [results, Tryz.results154, go_sem]) rfl ⟨rfl, ?_⟩
    exact (((Below.refl _ _).alloc (Nat.le_refl _) _).alloc (by simp) _).drew
theorem ownsRow_below {w w' : World} {base : Nat} {e : TypeId} {size : Nat} {v : Value} {n : Nat} {xs : List Value} {B : Nat} (h : w.ownsRow base e size v n xs) (hb : Below B w w') (hB : ∀ g, v.ownBlock = some g → g < B) : w'.ownsRow base e size v n xs := by
  refine ⟨h.1, ?_⟩
  rcases h.2 with hn | ⟨g, cap, cur, rfl, hbb, hgg, rest⟩
  · exact .inl hn
  · exact .inr ⟨g, cap, cur, rfl, hbb, (hb.block g (hB g rfl)).trans hgg, rest⟩
theorem own_mono {w : World} {base base' : Nat} {e : TypeId} {size : Nat} {v : Value} {n : Nat} {xs : List Value} (h : w.ownsRow base e size v n xs) (hb : base' ≤ base) : w.ownsRow base' e size v n xs := by
  refine ⟨h.1, ?_⟩
  rcases h.2 with hn | ⟨g, cap, cur, rfl, hbb, rest⟩
  · exact .inl hn
  · exact .inr ⟨g, cap, cur, rfl, by omega, rest⟩
theorem ownsRow_below' {w w' : World} {base : Nat} {e : TypeId} {size : Nat} {v : Value} {n : Nat} {xs : List Value} (h : w.ownsRow base e size v n xs) (hb : Below w.heap.size w w') : w'.ownsRow base e size v n xs :=
  ownsRow_below h hb fun g hg => (h.lt g hg).2
theorem info191 : (Tryz.prog.info? 191).map (fun i => (i.zero, i.size, i.bytes)) = some (some (.agg #[.int .i64 0, .int .i64 0, .bool false]), 3, 24) := by kernel_rfl
theorem disj_step {a b c : Option Nat} {m : Nat} (h : a = none ∨ a ≠ b) (hc : c = b ∨ c = some m) (hm : ∀ q, a = some q → q < m) : a = none ∨ a ≠ c := by
  rcases h with h | h
  · exact .inl h
  · rcases hc with rfl | rfl
    · exact .inr h
    · cases a with
      | none => exact .inl rfl
      | some q => exact .inr (fun e => by injection e with e; have := hm q rfl; omega)
theorem Rd.blkN {w : World} {B g n sz : Nat} {t : TypeId} {cs : Array Value} (h : Blk w g t cs) (hn : cs.size = n * sz) (hg : g < B) : Rd w B sz (some ⟨g, 0, none⟩) n cs.toList :=
  ⟨by simpa using hn, fun _ => ⟨g, 0, rfl, hg, fun j u hu => by rw [Nat.zero_add, h.cell j]; simpa using hu⟩⟩
def stripC (ax F N L P : Int) (sz k : Nat) : List Value := [.int .i64 (firstS ax F N P (lowV F N L k) sz), .int .i64 (endS ax F N P (lowV F N L k) (highV F N L k) sz), .bool (insideS ax F N P (lowV F N L k) (highV F N L k) sz)]
def stripRow (ax F N L P : Int) (sz m : Nat) : List Value := (List.range m).flatMap (stripC ax F N L P sz)
theorem stripRow_succ (ax F N L P : Int) (sz m : Nat) : stripRow ax F N L P sz (m + 1) = stripRow ax F N L P sz m ++ stripC ax F N L P sz m := by
  simp [stripRow, List.range_succ, List.flatMap_append]
def TwoRows (w : World) (b : Nat) (xs ys : List Value) (n m : Nat) (e : Ending) (w' : World) : Prop :=
  ∃ v0 v1, e = .returned (.agg #[v0, v1]) ∧ w'.ownsRow b 191 3 v0 n xs ∧ w'.ownsRow b 191 3 v1 m ys ∧ Below w.heap.size w w'
set_option maxRecDepth 100000 in
set_option maxHeartbeats 1600000 in
theorem strips_any (W H : Nat) (F L X Y N PX PY : Int) (A : Option Addr) (n cap : Nat) (rows : List ByteArray) (wd : Nat) (w : World) (hr : Rd w w.heap.size 1 A n (rows.map Value.string)) (hn : 0 < n) (hn2 : n ≤ 50) (hw : ∀ r ∈ rows, r.size = wd) (hwd : wd ≤ 50)
    (w1 : W ≤ 50) (w2 : H ≤ 50) (x1 : 0 ≤ X) (x2 : X ≤ 100) (y1 : 0 ≤ Y) (y2 : Y ≤ 100) (h1 : 0 ≤ F) (h2 : F ≤ 100) (h3 : 0 ≤ N) (h4 : N ≤ 100) (h5 : 0 ≤ L) (h6 : L ≤ 100) (p1 : -50 ≤ PX) (p2 : PX ≤ 50) (p3 : -50 ≤ PY) (p4 : PY ≤ 50) :
    Calls Tryz.prog 147 #[.agg #[.int .i64 W, .int .i64 H, .int .i64 F, .int .i64 L, .int .i64 X, .int .i64 Y, .slice A n cap, .int .i64 N, .int .i64 PX, .int .i64 PY]] w
      (TwoRows w w.heap.size (stripRow X F N L PX wd W) (stripRow Y F N L PY n H) W H) := by
  obtain ⟨i0, hi, hz0, hz1', hz2'⟩ := info_parts info191
  have hT := Below.refl w.heap.size w
  have ix0 : ∀ w, (Instr.index 196 (.agg #[.func (.func 190) #[] #[], .func (.func 191) #[] #[]]) (.int .i64 0)).run Tryz.prog w = .ok (.func (.func 190) #[] #[]) w := fun _ => by kernel_rfl
  have ix1 : ∀ w, (Instr.index 196 (.agg #[.func (.func 190) #[] #[], .func (.func 191) #[] #[]]) (.int .i64 1)).run Tryz.prog w = .ok (.func (.func 191) #[] #[]) w := fun _ => by kernel_rfl
  have iy0 : ∀ a b w, (Instr.index 199 (.agg #[.int .i64 a, .int .i64 b]) (.int .i64 0)).run Tryz.prog w = .ok (.int .i64 a) w := fun _ _ _ => by kernel_rfl
  have iy1 : ∀ a b w, (Instr.index 199 (.agg #[.int .i64 a, .int .i64 b]) (.int .i64 1)).run Tryz.prog w = .ok (.int .i64 b) w := fun _ _ _ => by kernel_rfl
  go_enter Tryz.func147, Tryz.ntmps147
  go_wp2_with (first | (go_at_call 152; refine (directions_any _).mono ?_; rintro e wd1 ⟨rfl, hb⟩; obtain ⟨hcc, hff⟩ := bcell hb))
  refine wp_loop_rounds 3 ?_
  rw [rounds_succ]
  go_wp2_with (first | (go_at_call 155; refine (cloth_any _ _ _ _ _ _ _ _ _ _ _).mono ?_; rintro e we ⟨rfl, hb2⟩; obtain ⟨hcc2, hff2⟩ := bcell hb2))
  have hB : Below w.heap.size w we := ((((Below.refl _ _).alloc (Nat.le_refl _) _).alloc (by simp) _).alloc (by simp; omega) _).trans ((hb.trans (hb2.mono hb.size)).mono (by simp; omega))
  have hbv : Blk we w.heap.size 140 #[.int .i64 W, .int .i64 H, .int .i64 F, .int .i64 L, .int .i64 X, .int .i64 Y, .slice A n cap, .int .i64 N, .int .i64 PX, .int .i64 PY] := ((((Blk.new w _ _).alloc _).alloc _).below (hb.trans (hb2.mono hb.size)) (by simp; omega))
  have hbr : Blk we (w.heap.size + 1) 187 #[.slice none 0 0, .slice none 0 0] := by
    have h0 := (Blk.new (w.alloc (.cells #[.int .i64 W, .int .i64 H, .int .i64 F, .int .i64 L, .int .i64 X, .int .i64 Y, .slice A n cap, .int .i64 N, .int .i64 PX, .int .i64 PY] 140)) 187 #[.slice none 0 0, .slice none 0 0]).alloc (.cells #[.slice none 0 0, .slice none 0 0] 187)
    rw [World.size_alloc] at h0
    exact h0.below (hb.trans (hb2.mono hb.size)) (by simp)
  have hbt : Blk we (w.heap.size + 1 + 1) 187 #[.slice none 0 0, .slice none 0 0] := by
    have h0 := Blk.new ((w.alloc (.cells #[.int .i64 W, .int .i64 H, .int .i64 F, .int .i64 L, .int .i64 X, .int .i64 Y, .slice A n cap, .int .i64 N, .int .i64 PX, .int .i64 PY] 140)).alloc (.cells #[.slice none 0 0, .slice none 0 0] 187)) 187 #[.slice none 0 0, .slice none 0 0]
    rw [World.size_alloc, World.size_alloc] at h0
    exact h0.below (hb.trans (hb2.mono hb.size)) (by simp)
  clear hcc hff hcc2 hff2 hb hb2
  go_loopg [16] W (fun g i wr => ∃ (k : Nat) (v : Value), g = W - k ∧ k ≤ W ∧ i = .int .i64 k ∧ wr.ownsRow (w.heap.size + 1 + 1 + 1) 191 3 v k (stripRow X F N L PX wd k) ∧
    Blk wr (w.heap.size + 1 + 1) 187 #[v, .slice none 0 0] ∧ Blk wr w.heap.size 140 #[.int .i64 W, .int .i64 H, .int .i64 F, .int .i64 L, .int .i64 X, .int .i64 Y, .slice A n cap, .int .i64 N, .int .i64 PX, .int .i64 PY] ∧ Blk wr (w.heap.size + 1) 187 #[.slice none 0 0, .slice none 0 0] ∧ Below w.heap.size w wr)
  case atStart => exact ⟨0, _, rfl, Nat.zero_le _, rfl, World.ownsRow_nil _ _ _ _, hbt, hbv, hbr, hB⟩
  case round =>
    clear hB hbv hbr hbt
    obtain ⟨k, v, hg, hk, rfl, hown, hbt, hbv, hbr, hB⟩ := hrel
    have HG := Lib.hid hg; clear hg
    by_cases hlt : k < W
    · have hct := fun i => hbt.cell i
      have hcv := fun i => hbv.cell i
      have hft := fun i => hbt.frozen i
      have hlv := hbv.lt
      have hlt2 := hbt.lt
      have hlr := hbr.lt
      go_wp2_with (fail)
      refine wp_region_G (fun w' => Blk w' w.heap.size 140 #[.int .i64 W, .int .i64 H, .int .i64 F, .int .i64 L, .int .i64 X, .int .i64 Y, .slice A n cap, .int .i64 N, .int .i64 PX, .int .i64 PY] ∧ Blk w' (w.heap.size + 1 + 1) 187 #[v, .slice none 0 0]) 15 (by kernel_rfl) ?_
      have hTT := And.intro hbv hbt
      refine wpG_take (i := 0) (v := ?v0) rfl (by kernel_rfl) (by kernel_rfl) (by kernel_rfl) (by kernel_rfl) (fun _ _ _ h => h) (Or.inl ⟨by rfl, ?hy0⟩) hTT ?rest0
      case hy0 => intro wq hSw; have hq1 := fun i => hSw.1.cell i; have hq2 := fun i => hSw.2.cell i; go_simp <;> with_reducible rfl
      simp only [List.getElem_toArray, List.getElem_cons_zero, List.getElem_cons_succ, Act.put, List.setIfInBounds_toArray, List.set_cons_zero, List.set_cons_succ]
      refine wpG_take (i := 1) (v := ?v1) rfl (by kernel_rfl) (by kernel_rfl) (by kernel_rfl) (by kernel_rfl) (fun _ _ _ h => h) (Or.inl ⟨by rfl, ?hy1⟩) hTT ?rest1
      case hy1 => intro wq hSw; have hq1 := fun i => hSw.1.cell i; have hq2 := fun i => hSw.2.cell i; go_simp <;> with_reducible rfl
      simp only [List.getElem_toArray, List.getElem_cons_zero, List.getElem_cons_succ, Act.put, List.setIfInBounds_toArray, List.set_cons_zero, List.set_cons_succ]
      refine wpG_take (i := 2) (v := ?v2) rfl (by kernel_rfl) (by kernel_rfl) (by kernel_rfl) (by kernel_rfl) (fun _ _ _ h => h) (Or.inl ⟨by rfl, ?hy2⟩) hTT ?rest2
      case hy2 => intro wq hSw; have hq1 := fun i => hSw.1.cell i; have hq2 := fun i => hSw.2.cell i; go_simp <;> with_reducible rfl
      simp only [List.getElem_toArray, List.getElem_cons_zero, List.getElem_cons_succ, Act.put, List.setIfInBounds_toArray, List.set_cons_zero, List.set_cons_succ]
      refine wpG_take (i := 3) (v := ?v3) rfl (by kernel_rfl) (by kernel_rfl) (by kernel_rfl) (by kernel_rfl) (fun _ _ _ h => h) (Or.inl ⟨by rfl, ?hy3⟩) hTT ?rest3
      case hy3 => intro wq hSw; have hq1 := fun i => hSw.1.cell i; have hq2 := fun i => hSw.2.cell i; go_simp <;> with_reducible rfl
      simp only [List.getElem_toArray, List.getElem_cons_zero, List.getElem_cons_succ, Act.put, List.setIfInBounds_toArray, List.set_cons_zero, List.set_cons_succ]
      refine wpG_take (i := 4) (v := ?v4) rfl (by kernel_rfl) (by kernel_rfl) (by kernel_rfl) (by kernel_rfl) (fun _ _ _ h => h) (Or.inl ⟨by rfl, ?hy4⟩) hTT ?rest4
      case hy4 => intro wq hSw; have hq1 := fun i => hSw.1.cell i; have hq2 := fun i => hSw.2.cell i; go_simp <;> with_reducible rfl
      simp only [List.getElem_toArray, List.getElem_cons_zero, List.getElem_cons_succ, Act.put, List.setIfInBounds_toArray, List.set_cons_zero, List.set_cons_succ]
      refine wpG_take (i := 5) (v := ?v5) rfl (by kernel_rfl) (by kernel_rfl) (by kernel_rfl) (by kernel_rfl) (fun _ _ _ h => h) (Or.inl ⟨by rfl, ?hy5⟩) hTT ?rest5
      case hy5 => intro wq hSw; have hq1 := fun i => hSw.1.cell i; have hq2 := fun i => hSw.2.cell i; go_simp <;> with_reducible rfl
      simp only [List.getElem_toArray, List.getElem_cons_zero, List.getElem_cons_succ, Act.put, List.setIfInBounds_toArray, List.set_cons_zero, List.set_cons_succ]
      refine wpG_take (i := 6) (v := ?v6) rfl (by kernel_rfl) (by kernel_rfl) (by kernel_rfl) (by kernel_rfl) (fun _ _ _ h => h) (Or.inl ⟨by rfl, ?hy6⟩) hTT ?rest6
      case hy6 => intro wq hSw; have hq1 := fun i => hSw.1.cell i; have hq2 := fun i => hSw.2.cell i; go_simp <;> with_reducible rfl
      simp only [List.getElem_toArray, List.getElem_cons_zero, List.getElem_cons_succ, Act.put, List.setIfInBounds_toArray, List.set_cons_zero, List.set_cons_succ]
      refine wpG_take (i := 8) (v := ?v8) rfl (by kernel_rfl) (by kernel_rfl) (by kernel_rfl) (by kernel_rfl) (fun _ _ _ h => h) (Or.inl ⟨by rfl, ?hy8⟩) hTT ?rest8
      case hy8 => intro wq hSw; have hq1 := fun i => hSw.1.cell i; have hq2 := fun i => hSw.2.cell i; go_simp <;> with_reducible rfl
      simp only [List.getElem_toArray, List.getElem_cons_zero, List.getElem_cons_succ, Act.put, List.setIfInBounds_toArray, List.set_cons_zero, List.set_cons_succ]
      refine wpG_take (i := 10) (v := ?v10) rfl (by kernel_rfl) (by kernel_rfl) (by kernel_rfl) (by kernel_rfl) (fun _ _ _ h => h) (Or.inl ⟨by rfl, ?hy10⟩) hTT ?rest10
      case hy10 => intro wq hSw; have hq1 := fun i => hSw.1.cell i; have hq2 := fun i => hSw.2.cell i; go_simp <;> with_reducible rfl
      simp only [List.getElem_toArray, List.getElem_cons_zero, List.getElem_cons_succ, Act.put, List.setIfInBounds_toArray, List.set_cons_zero, List.set_cons_succ]
      refine wpG_one (i := 7) rfl (by kernel_rfl) (fun K hK => ?_)
      go_simp
      refine (size_any _ _ _ _ _ _ _ _ _ A n cap rows _ (by exact (hr.below hB).more hB.size) hn hn2 wd hw).mono ?_; rintro e wx ⟨rfl, hbx⟩
      have hbt1 := Blk.below (w := wr.drew) hbt hbx hlt2; have hbv1 := Blk.below (w := wr.drew) hbv hbx hlv; have hbr1 := Blk.below (w := wr.drew) hbr hbx hlr; have hown1 := ownsRow_below' (w := wr.drew) hown hbx; have hz1 : wr.heap.size ≤ wx.heap.size := hbx.size; have hB1 : Below w.heap.size w wx := Below.trans (b := wr.drew) hB.drew (hbx.mono hB.size); clear hTT; have hTT := And.intro hbv1 hbt1; dsimp only
      refine hK _ _ (.inr hTT) ?_
      clear hK K
      try simp only [List.getElem_toArray, List.getElem_cons_zero, List.getElem_cons_succ, Act.put, List.setIfInBounds_toArray, List.set_cons_zero, List.set_cons_succ]
      refine wpG_take (i := 9) (v := ?v9) rfl (by kernel_rfl) (by kernel_rfl) (by kernel_rfl) (by kernel_rfl) (fun _ _ _ h => h) (Or.inl ⟨by rfl, ?hy9⟩) hTT ?rest9
      case hy9 => intro wq hSw; have hq1 := fun i => hSw.1.cell i; have hq2 := fun i => hSw.2.cell i; go_simp <;> with_reducible rfl
      simp only [List.getElem_toArray, List.getElem_cons_zero, List.getElem_cons_succ, Act.put, List.setIfInBounds_toArray, List.set_cons_zero, List.set_cons_succ]
      refine wpG_one (i := 11) rfl (by kernel_rfl) (fun K hK => ?_)
      go_simp
      refine (strip_across W H F L X Y N PX PY (.slice A n cap) rfl wd k _ x1 x2 h1 h2 h3 h4 h5 h6 p1 p2 hwd (by omega)).mono ?_; rintro e wy ⟨rfl, hby⟩
      have hbt2 := hbt1.below hby hbt1.lt; have hbv2 := hbv1.below hby hbv1.lt; have hbr2 := hbr1.below hby hbr1.lt; have hown2 := ownsRow_below' hown1 hby; have hz2 : wr.heap.size ≤ wy.heap.size := Nat.le_trans hz1 hby.size; have hB2 := hB1.trans (hby.mono hB1.size); clear hTT; have hTT := And.intro hbv2 hbt2; dsimp only
      refine hK _ _ (.inr hTT) ?_
      clear hK K
      try simp only [List.getElem_toArray, List.getElem_cons_zero, List.getElem_cons_succ, Act.put, List.setIfInBounds_toArray, List.set_cons_zero, List.set_cons_succ]
      refine wpG_one (i := 12) rfl (by kernel_rfl) (fun K hK => ?_)
      go_simp
      have hbt3 := hbt2.alloc (.cells (stripC X F N L PX wd k).toArray 191); have hbv3 := hbv2.alloc (.cells (stripC X F N L PX wd k).toArray 191); have hbr3 := hbr2.alloc (.cells (stripC X F N L PX wd k).toArray 191); have hown3 := hown2.alloc (.cells (stripC X F N L PX wd k).toArray 191); have hB3 := hB2.alloc hB2.size (.cells (stripC X F N L PX wd k).toArray 191); clear hTT; have hTT := And.intro hbv3 hbt3
      refine hK _ _ (.inr hTT) ?_
      clear hK K
      try simp only [List.getElem_toArray, List.getElem_cons_zero, List.getElem_cons_succ, Act.put, List.setIfInBounds_toArray, List.set_cons_zero, List.set_cons_succ]
      refine wpG_one (i := 13) rfl (by kernel_rfl) (fun K hK => ?_)
      rw [if_pos (by rfl)]; refine wp_append_any _ _ _ 186 rfl (w.heap.size + 1 + 1 + 1) 191 i0 (.agg #[.int .i64 0, .int .i64 0, .bool false]) 3 24 Tryz.underlying186 hi hz0 hz1' hz2' rfl (by decide) v k (stripRow X F N L PX wd k) rfl hown3 (wy.heap.size + 1) (some ⟨wy.heap.size, 0, none⟩) 1 1 (stripC X F N L PX wd k) rfl (Rd.blkN (Blk.new _ _ _) rfl (Nat.lt_succ_self _)).reads (by simp [stripC, Value.oneCell']) (by unfold maxLen; omega) (by omega) (by simp; omega) (fun v' w' hown' hgrow hob => ?_)
      obtain ⟨g', cap', rfl, hg1, hg2⟩ := hown'.form (Nat.succ_pos _); have hbt4 := hbt3.grown hgrow (fun e => own_blk_ne hown3 hbt3 (by decide) e.symm); have hbv4 := hbv3.grown hgrow (fun e => own_blk_ne hown3 hbv3 (by decide) e.symm); have hbr4 := hbr3.grown hgrow (fun e => own_blk_ne hown3 hbr3 (by decide) e.symm); have hB4 := hB3.grown hgrow hB3.size (fun q hq => by have := (hown3.lt q hq).1; omega); clear hTT; have hTT := And.intro hbv4 hbt4
      refine hK _ _ (.inr hTT) ?_
      clear hK K
      try simp only [List.getElem_toArray, List.getElem_cons_zero, List.getElem_cons_succ, Act.put, List.setIfInBounds_toArray, List.set_cons_zero, List.set_cons_succ]
      refine wpG_take (i := 14) (v := ?v14) rfl (by kernel_rfl) (by kernel_rfl) (by kernel_rfl) (by kernel_rfl) (fun _ _ _ h => h) (Or.inl ⟨by rfl, ?hy14⟩) hTT ?rest14
      case hy14 => intro wq hSw; have hq1 := fun i => hSw.1.cell i; have hq2 := fun i => hSw.2.cell i; go_simp <;> with_reducible rfl
      simp only [List.getElem_toArray, List.getElem_cons_zero, List.getElem_cons_succ, Act.put, List.setIfInBounds_toArray, List.set_cons_zero, List.set_cons_succ]
      have hct4 := fun i => hbt4.cell i
      have hft4 := fun i => hbt4.frozen i
      refine wpG_one (i := 15) rfl (by kernel_rfl) (fun K hK => ?_)
      go_simp
      refine hK _ _ (.inl rfl) ?_
      clear hK K
      try simp only [List.getElem_toArray, List.getElem_cons_zero, List.getElem_cons_succ, Act.put, List.setIfInBounds_toArray, List.set_cons_zero, List.set_cons_succ]
      refine wpG_done (by kernel_rfl) ?_ _
      go_wp2_with (fail)
      go_roundg (W - (k + 1))
      case measure => rw [HG.out]; omega
      case rel => exact ⟨k + 1, _, rfl, by omega, by go_num, by rw [stripRow_succ]; exact ownsRow_setCell_other hown' (by simp [Value.ownBlock]; omega) _, hbt4.set_ 0 _, hbv4.far (p := ⟨w.heap.size + 1 + 1, 0, none⟩) (by show _ ≠ w.heap.size + 1 + 1; omega) _, hbr4.far (p := ⟨w.heap.size + 1 + 1, 0, none⟩) (by show _ ≠ w.heap.size + 1 + 1; omega) _, hB4.setCell (p := ⟨w.heap.size + 1 + 1, 0, none⟩) (by show _ ≤ w.heap.size + 1 + 1; omega) _⟩
    · obtain rfl : W = k := by omega
      have hct := fun i => hbt.cell i
      have hcv := fun i => hbv.cell i
      have hlv := hbv.lt
      go_wp2_with (fail)
      rw [rounds_succ]
      go_wp2_with (first | (go_at_call 155; refine (cloth_any _ _ _ _ _ _ _ _ _ _ _).mono ?_; rintro e we2 ⟨rfl, hb2⟩))
      replace hown := ownsRow_below' hown hb2
      replace hbt := hbt.below hb2 hbt.lt
      replace hbr := hbr.below hb2 hbr.lt
      replace hB := hB.trans (hb2.mono hB.size)
      replace hbv := hbv.below hb2 hbv.lt
      clear hct hcv hlv hb2
      go_loopg [16] H (fun g i wr => ∃ (k : Nat) (u : Value), g = H - k ∧ k ≤ H ∧ i = .int .i64 k ∧ wr.ownsRow (w.heap.size + 1 + 1 + 1) 191 3 v W (stripRow X F N L PX wd W) ∧ wr.ownsRow (w.heap.size + 1 + 1 + 1) 191 3 u k (stripRow Y F N L PY n k) ∧ (v.ownBlock = none ∨ v.ownBlock ≠ u.ownBlock) ∧
        Blk wr (w.heap.size + 1 + 1) 187 #[v, u] ∧ Blk wr w.heap.size 140 #[.int .i64 W, .int .i64 H, .int .i64 F, .int .i64 L, .int .i64 X, .int .i64 Y, .slice A n cap, .int .i64 N, .int .i64 PX, .int .i64 PY] ∧ Blk wr (w.heap.size + 1) 187 #[.slice none 0 0, .slice none 0 0] ∧ Below w.heap.size w wr)
      case atStart => exact ⟨0, _, rfl, Nat.zero_le _, rfl, hown, World.ownsRow_nil _ _ _ _, by cases v.ownBlock <;> simp [Value.ownBlock], hbt, hbv, hbr, hB⟩
      case round =>
        clear hB hbv hbr hbt hown HG
        obtain ⟨k, u, hg, hk, rfl, hov, hown, hdis, hbt, hbv, hbr, hB⟩ := hrel
        have HG := Lib.hid hg; clear hg
        have HD := Lib.hid hdis; clear hdis
        by_cases hlt : k < H
        · have hct := fun i => hbt.cell i
          have hcv := fun i => hbv.cell i
          have hft := fun i => hbt.frozen i
          have hlv := hbv.lt
          have hlt2 := hbt.lt
          have hlr := hbr.lt
          go_wp2_with (fail)
          refine wp_region_G (fun w' => Blk w' w.heap.size 140 #[.int .i64 W, .int .i64 H, .int .i64 F, .int .i64 L, .int .i64 X, .int .i64 Y, .slice A n cap, .int .i64 N, .int .i64 PX, .int .i64 PY] ∧ Blk w' (w.heap.size + 1 + 1) 187 #[v, u]) 15 (by kernel_rfl) ?_
          have hTT := And.intro hbv hbt
          refine wpG_take (i := 0) (v := ?vb0) rfl (by kernel_rfl) (by kernel_rfl) (by kernel_rfl) (by kernel_rfl) (fun _ _ _ h => h) (Or.inl ⟨by rfl, ?hyb0⟩) hTT ?restb0
          case hyb0 => intro wq hSw; have hq1 := fun i => hSw.1.cell i; have hq2 := fun i => hSw.2.cell i; go_simp <;> with_reducible rfl
          simp only [List.getElem_toArray, List.getElem_cons_zero, List.getElem_cons_succ, Act.put, List.setIfInBounds_toArray, List.set_cons_zero, List.set_cons_succ]
          refine wpG_take (i := 1) (v := ?vb1) rfl (by kernel_rfl) (by kernel_rfl) (by kernel_rfl) (by kernel_rfl) (fun _ _ _ h => h) (Or.inl ⟨by rfl, ?hyb1⟩) hTT ?restb1
          case hyb1 => intro wq hSw; have hq1 := fun i => hSw.1.cell i; have hq2 := fun i => hSw.2.cell i; go_simp <;> with_reducible rfl
          simp only [List.getElem_toArray, List.getElem_cons_zero, List.getElem_cons_succ, Act.put, List.setIfInBounds_toArray, List.set_cons_zero, List.set_cons_succ]
          refine wpG_take (i := 2) (v := ?vb2) rfl (by kernel_rfl) (by kernel_rfl) (by kernel_rfl) (by kernel_rfl) (fun _ _ _ h => h) (Or.inl ⟨by rfl, ?hyb2⟩) hTT ?restb2
          case hyb2 => intro wq hSw; have hq1 := fun i => hSw.1.cell i; have hq2 := fun i => hSw.2.cell i; go_simp <;> with_reducible rfl
          simp only [List.getElem_toArray, List.getElem_cons_zero, List.getElem_cons_succ, Act.put, List.setIfInBounds_toArray, List.set_cons_zero, List.set_cons_succ]
          refine wpG_take (i := 3) (v := ?vb3) rfl (by kernel_rfl) (by kernel_rfl) (by kernel_rfl) (by kernel_rfl) (fun _ _ _ h => h) (Or.inl ⟨by rfl, ?hyb3⟩) hTT ?restb3
          case hyb3 => intro wq hSw; have hq1 := fun i => hSw.1.cell i; have hq2 := fun i => hSw.2.cell i; go_simp <;> with_reducible rfl
          simp only [List.getElem_toArray, List.getElem_cons_zero, List.getElem_cons_succ, Act.put, List.setIfInBounds_toArray, List.set_cons_zero, List.set_cons_succ]
          refine wpG_take (i := 4) (v := ?vb4) rfl (by kernel_rfl) (by kernel_rfl) (by kernel_rfl) (by kernel_rfl) (fun _ _ _ h => h) (Or.inl ⟨by rfl, ?hyb4⟩) hTT ?restb4
          case hyb4 => intro wq hSw; have hq1 := fun i => hSw.1.cell i; have hq2 := fun i => hSw.2.cell i; go_simp <;> with_reducible rfl
          simp only [List.getElem_toArray, List.getElem_cons_zero, List.getElem_cons_succ, Act.put, List.setIfInBounds_toArray, List.set_cons_zero, List.set_cons_succ]
          refine wpG_take (i := 5) (v := ?vb5) rfl (by kernel_rfl) (by kernel_rfl) (by kernel_rfl) (by kernel_rfl) (fun _ _ _ h => h) (Or.inl ⟨by rfl, ?hyb5⟩) hTT ?restb5
          case hyb5 => intro wq hSw; have hq1 := fun i => hSw.1.cell i; have hq2 := fun i => hSw.2.cell i; go_simp <;> with_reducible rfl
          simp only [List.getElem_toArray, List.getElem_cons_zero, List.getElem_cons_succ, Act.put, List.setIfInBounds_toArray, List.set_cons_zero, List.set_cons_succ]
          refine wpG_take (i := 6) (v := ?vb6) rfl (by kernel_rfl) (by kernel_rfl) (by kernel_rfl) (by kernel_rfl) (fun _ _ _ h => h) (Or.inl ⟨by rfl, ?hyb6⟩) hTT ?restb6
          case hyb6 => intro wq hSw; have hq1 := fun i => hSw.1.cell i; have hq2 := fun i => hSw.2.cell i; go_simp <;> with_reducible rfl
          simp only [List.getElem_toArray, List.getElem_cons_zero, List.getElem_cons_succ, Act.put, List.setIfInBounds_toArray, List.set_cons_zero, List.set_cons_succ]
          refine wpG_take (i := 8) (v := ?vb8) rfl (by kernel_rfl) (by kernel_rfl) (by kernel_rfl) (by kernel_rfl) (fun _ _ _ h => h) (Or.inl ⟨by rfl, ?hyb8⟩) hTT ?restb8
          case hyb8 => intro wq hSw; have hq1 := fun i => hSw.1.cell i; have hq2 := fun i => hSw.2.cell i; go_simp <;> with_reducible rfl
          simp only [List.getElem_toArray, List.getElem_cons_zero, List.getElem_cons_succ, Act.put, List.setIfInBounds_toArray, List.set_cons_zero, List.set_cons_succ]
          refine wpG_take (i := 10) (v := ?vb10) rfl (by kernel_rfl) (by kernel_rfl) (by kernel_rfl) (by kernel_rfl) (fun _ _ _ h => h) (Or.inl ⟨by rfl, ?hyb10⟩) hTT ?restb10
          case hyb10 => intro wq hSw; have hq1 := fun i => hSw.1.cell i; have hq2 := fun i => hSw.2.cell i; go_simp <;> with_reducible rfl
          simp only [List.getElem_toArray, List.getElem_cons_zero, List.getElem_cons_succ, Act.put, List.setIfInBounds_toArray, List.set_cons_zero, List.set_cons_succ]
          refine wpG_one (i := 7) rfl (by kernel_rfl) (fun K hK => ?_)
          go_simp
          refine (size_any _ _ _ _ _ _ _ _ _ A n cap rows _ (by exact (hr.below hB).more hB.size) hn hn2 wd hw).mono ?_; rintro e wx ⟨rfl, hbx⟩
          have hbt1 := Blk.below (w := wr.drew) hbt hbx hlt2; have hbv1 := Blk.below (w := wr.drew) hbv hbx hlv; have hbr1 := Blk.below (w := wr.drew) hbr hbx hlr; have hown1 := ownsRow_below' (w := wr.drew) hown hbx; have hov1 := ownsRow_below' (w := wr.drew) hov hbx; have hz1 : wr.heap.size ≤ wx.heap.size := hbx.size; have hB1 : Below w.heap.size w wx := Below.trans (b := wr.drew) hB.drew (hbx.mono hB.size); clear hTT; have hTT := And.intro hbv1 hbt1; dsimp only
          refine hK _ _ (.inr hTT) ?_
          clear hK K
          try simp only [List.getElem_toArray, List.getElem_cons_zero, List.getElem_cons_succ, Act.put, List.setIfInBounds_toArray, List.set_cons_zero, List.set_cons_succ]
          refine wpG_take (i := 9) (v := ?vb9) rfl (by kernel_rfl) (by kernel_rfl) (by kernel_rfl) (by kernel_rfl) (fun _ _ _ h => h) (Or.inl ⟨by rfl, ?hyb9⟩) hTT ?restb9
          case hyb9 => intro wq hSw; have hq1 := fun i => hSw.1.cell i; have hq2 := fun i => hSw.2.cell i; go_simp <;> with_reducible rfl
          simp only [List.getElem_toArray, List.getElem_cons_zero, List.getElem_cons_succ, Act.put, List.setIfInBounds_toArray, List.set_cons_zero, List.set_cons_succ]
          refine wpG_one (i := 11) rfl (by kernel_rfl) (fun K hK => ?_)
          go_simp
          refine (strip_down W H F L X Y N PX PY (.slice A n cap) rfl n k _ y1 y2 h1 h2 h3 h4 h5 h6 p3 p4 hn2 (by omega)).mono ?_; rintro e wy ⟨rfl, hby⟩
          have hbt2 := hbt1.below hby hbt1.lt; have hbv2 := hbv1.below hby hbv1.lt; have hbr2 := hbr1.below hby hbr1.lt; have hown2 := ownsRow_below' hown1 hby; have hov2 := ownsRow_below' hov1 hby; have hz2 : wr.heap.size ≤ wy.heap.size := Nat.le_trans hz1 hby.size; have hB2 := hB1.trans (hby.mono hB1.size); clear hTT; have hTT := And.intro hbv2 hbt2; dsimp only
          refine hK _ _ (.inr hTT) ?_
          clear hK K
          try simp only [List.getElem_toArray, List.getElem_cons_zero, List.getElem_cons_succ, Act.put, List.setIfInBounds_toArray, List.set_cons_zero, List.set_cons_succ]
          refine wpG_one (i := 12) rfl (by kernel_rfl) (fun K hK => ?_)
          go_simp
          have hbt3 := hbt2.alloc (.cells (stripC Y F N L PY n k).toArray 191); have hbv3 := hbv2.alloc (.cells (stripC Y F N L PY n k).toArray 191); have hbr3 := hbr2.alloc (.cells (stripC Y F N L PY n k).toArray 191); have hown3 := hown2.alloc (.cells (stripC Y F N L PY n k).toArray 191); have hov3 := hov2.alloc (.cells (stripC Y F N L PY n k).toArray 191); have hB3 := hB2.alloc hB2.size (.cells (stripC Y F N L PY n k).toArray 191); clear hTT; have hTT := And.intro hbv3 hbt3
          refine hK _ _ (.inr hTT) ?_
          clear hK K
          try simp only [List.getElem_toArray, List.getElem_cons_zero, List.getElem_cons_succ, Act.put, List.setIfInBounds_toArray, List.set_cons_zero, List.set_cons_succ]
          refine wpG_one (i := 13) rfl (by kernel_rfl) (fun K hK => ?_)
          rw [if_pos (by rfl)]; refine wp_append_any _ _ _ 186 rfl (w.heap.size + 1 + 1 + 1) 191 i0 (.agg #[.int .i64 0, .int .i64 0, .bool false]) 3 24 Tryz.underlying186 hi hz0 hz1' hz2' rfl (by decide) u k (stripRow Y F N L PY n k) rfl hown3 (wy.heap.size + 1) (some ⟨wy.heap.size, 0, none⟩) 1 1 (stripC Y F N L PY n k) rfl (Rd.blkN (Blk.new _ _ _) rfl (Nat.lt_succ_self _)).reads (by simp [stripC, Value.oneCell']) (by unfold maxLen; omega) (by omega) (by simp; omega) (fun v' w' hown' hgrow hob => ?_)
          have hov4 := hov3.kept hgrow HD.out; have hdis' : v.ownBlock = none ∨ v.ownBlock ≠ v'.ownBlock := disj_step HD.out hob (fun q hq => (hov3.lt q hq).2); obtain ⟨g', cap', rfl, hg1, hg2⟩ := hown'.form (Nat.succ_pos _); have HD' := Lib.hid hdis'; clear hdis'; have hbt4 := hbt3.grown hgrow (fun e => own_blk_ne hown3 hbt3 (by decide) e.symm); have hbv4 := hbv3.grown hgrow (fun e => own_blk_ne hown3 hbv3 (by decide) e.symm); have hbr4 := hbr3.grown hgrow (fun e => own_blk_ne hown3 hbr3 (by decide) e.symm); have hB4 := hB3.grown hgrow hB3.size (fun q hq => by have := (hown3.lt q hq).1; omega); clear hTT; have hTT := And.intro hbv4 hbt4
          refine hK _ _ (.inr hTT) ?_
          clear hK K
          try simp only [List.getElem_toArray, List.getElem_cons_zero, List.getElem_cons_succ, Act.put, List.setIfInBounds_toArray, List.set_cons_zero, List.set_cons_succ]
          refine wpG_take (i := 14) (v := ?vb14) rfl (by kernel_rfl) (by kernel_rfl) (by kernel_rfl) (by kernel_rfl) (fun _ _ _ h => h) (Or.inl ⟨by rfl, ?hyb14⟩) hTT ?restb14
          case hyb14 => intro wq hSw; have hq1 := fun i => hSw.1.cell i; have hq2 := fun i => hSw.2.cell i; go_simp <;> with_reducible rfl
          simp only [List.getElem_toArray, List.getElem_cons_zero, List.getElem_cons_succ, Act.put, List.setIfInBounds_toArray, List.set_cons_zero, List.set_cons_succ]
          have hct4 := fun i => hbt4.cell i
          have hft4 := fun i => hbt4.frozen i
          refine wpG_one (i := 15) rfl (by kernel_rfl) (fun K hK => ?_)
          go_simp
          refine hK _ _ (.inl rfl) ?_
          clear hK K
          try simp only [List.getElem_toArray, List.getElem_cons_zero, List.getElem_cons_succ, Act.put, List.setIfInBounds_toArray, List.set_cons_zero, List.set_cons_succ]
          refine wpG_done (by kernel_rfl) ?_ _
          have hovb : v.ownBlock ≠ some (w.heap.size + 1 + 1) := own_blk_ne hov4 hbt4 (by decide)
          go_wp2_with (fail)
          go_roundg (H - (k + 1))
          case measure => rw [HG.out]; omega
          case rel => exact ⟨k + 1, _, rfl, by omega, by go_num, ownsRow_setCell_other (a := ⟨w.heap.size + 1 + 1, 1, none⟩) hov4 hovb _, by rw [stripRow_succ]; exact ownsRow_setCell_other hown' (by simp [Value.ownBlock]; omega) _, HD'.out, hbt4.set_ 1 _, hbv4.far (p := ⟨w.heap.size + 1 + 1, 1, none⟩) (by show _ ≠ w.heap.size + 1 + 1; omega) _, hbr4.far (p := ⟨w.heap.size + 1 + 1, 1, none⟩) (by show _ ≠ w.heap.size + 1 + 1; omega) _, hB4.setCell (p := ⟨w.heap.size + 1 + 1, 1, none⟩) (by show _ ≤ w.heap.size + 1 + 1; omega) _⟩
        · obtain rfl : H = k := by omega
          have hct := fun i => hbt.cell i
          have hcr := fun i => hbr.cell i
          have hfr := fun i => hbr.frozen i
          have hlr := hbr.lt
          go_wp2_with (fail)
          rw [rounds_succ]
          have hfv : ∃ a0 n0 c0, v = .slice a0 n0 c0 := by rcases hov.2 with ⟨h, _⟩ | ⟨g0, c0, cu, h, _⟩ <;> exact ⟨_, _, _, h⟩
          have hfu : ∃ a0 n0 c0, u = .slice a0 n0 c0 := by rcases hown.2 with ⟨h, _⟩ | ⟨g0, c0, cu, h, _⟩ <;> exact ⟨_, _, _, h⟩
          obtain ⟨a0, n0, c0, rfl⟩ := hfv
          obtain ⟨a1, n1, c1, rfl⟩ := hfu
          go_wp2_with (fail)
          refine bodyPost_ret (v := .agg #[.slice a0 n0 c0, .slice a1 n1 c1]) ?_ rfl ⟨_, _, rfl, ?_, ?_, ?_⟩
          · simp [results, Tryz.results147, go_sem, hlr, hcr]
          · refine own_mono ?_ (show w.heap.size ≤ w.heap.size + 1 + 1 + 1 by omega)
            exact (ownsRow_setCell_other (a := ⟨w.heap.size + 1, 1, none⟩) (ownsRow_setCell_other (a := ⟨w.heap.size + 1, 0, none⟩) hov (fun e => by have := (hov.lt _ e).1; simp at this; omega) _) (fun e => by have := (hov.lt _ e).1; simp at this; omega) _)
          · refine own_mono ?_ (show w.heap.size ≤ w.heap.size + 1 + 1 + 1 by omega)
            exact (ownsRow_setCell_other (a := ⟨w.heap.size + 1, 1, none⟩) (ownsRow_setCell_other (a := ⟨w.heap.size + 1, 0, none⟩) hown (fun e => by have := (hown.lt _ e).1; simp at this; omega) _) (fun e => by have := (hown.lt _ e).1; simp at this; omega) _)
          · exact (hB.setCell (p := ⟨w.heap.size + 1, 0, none⟩) (by show _ ≤ w.heap.size + 1; omega) _).setCell (p := ⟨w.heap.size + 1, 1, none⟩) (by show _ ≤ w.heap.size + 1; omega) _
end
end Go.Proofs.YtifddfchpknkbaaGreatDoor
