import Derived.Test.YtifddfchpknkbaaGreatDoorMa
import Derived.Test.YtifddfchpknkbaaGreatDoorZ
import Derived.Test.YtifddfchpknkbaaGreatDoorI
import Derived.Test.YtifddfchpknkbaaGreatDoorN
import Derived.Test.YtifddfchpknkbaaGreatDoorK
import Derived.Deep.Slices
set_option linter.unusedVariables false
set_option linter.unusedSimpArgs false
namespace Go.Proofs.YtifddfchpknkbaaGreatDoor
open Go.RowKit

/-! Lists of elements of many cells. -/
theorem flatc_len {α : Type} (c : α → List Value) (sz : Nat) (hc : ∀ a, (c a).length = sz) : ∀ l : List α, (l.flatMap c).length = l.length * sz
  | [] => by simp
  | a :: l => by rw [List.flatMap_cons, List.length_append, flatc_len c sz hc l, hc, List.length_cons, Nat.add_mul, Nat.one_mul, Nat.add_comm]
theorem flatc_at {α : Type} (c : α → List Value) (sz : Nat) (hc : ∀ a, (c a).length = sz) : ∀ (l : List α) (k j : Nat) (hk : k < l.length), j < sz → (l.flatMap c)[k * sz + j]? = (c l[k])[j]?
  | [], k, j, hk, _ => by simp at hk
  | a :: l, 0, j, _, hj => by rw [List.flatMap_cons, List.getElem?_append_left (by rw [hc]; omega)]; simp
  | a :: l, k + 1, j, hk, hj => by
    rw [List.flatMap_cons, List.getElem?_append_right (by rw [hc, Nat.add_mul]; omega)]
    have e : (k + 1) * sz + j - (c a).length = k * sz + j := by rw [hc, Nat.add_mul]; omega
    rw [e]
    exact flatc_at c sz hc l k j (by simpa using hk) hj
theorem Rd.lenc {α : Type} {w : World} {B : Nat} {A : Option Addr} {n : Nat} {l : List α} {c : α → List Value} {sz : Nat} (hsz : 0 < sz) (hc : ∀ a, (c a).length = sz) (h : Rd w B sz A n (l.flatMap c)) : l.length = n := by
  have := h.1; rw [flatc_len c sz hc] at this; exact Nat.eq_of_mul_eq_mul_right hsz this
theorem Rd.atc {α : Type} {w : World} {B : Nat} {A : Option Addr} {n k : Nat} {l : List α} {c : α → List Value} {sz : Nat} (hsz : 0 < sz) (hc : ∀ a, (c a).length = sz) (h : Rd w B sz A n (l.flatMap c)) (hk : k < n) :
    ∃ b off, ∃ hz : k < l.length, A = some ⟨b, off, none⟩ ∧ b < B ∧ ∀ j u, j < sz → (c l[k])[j]? = some u → w.cell? ⟨b, off + (k * sz + j), none⟩ = some u := by
  have hl : k < l.length := by have := h.lenc hsz hc; omega
  obtain ⟨b, off, e, hb, hcell⟩ := h.2 (by omega)
  exact ⟨b, off, hl, e, hb, fun j u hj hu => hcell _ u (by rw [flatc_at c sz hc l k j hl hj]; exact hu)⟩

/-- A place. -/
structure Pl where
  n : Int
  x : Int
  y : Int
def plC (p : Pl) : List Value := [.int .i64 p.n, .int .i64 p.x, .int .i64 p.y]
theorem plC_len (p : Pl) : (plC p).length = 3 := rfl
theorem Rd.at3 {w : World} {B : Nat} {A : Option Addr} {n k : Nat} {l : List Pl} (h : Rd w B 3 A n (l.flatMap plC)) (hk : k < n) :
    ∃ b off, ∃ hz : k < l.length, A = some ⟨b, off, none⟩ ∧ b < B ∧ w.cell? ⟨b, off + k * 3, none⟩ = some (.int .i64 l[k].n) ∧ w.cell? ⟨b, off + k * 3 + 1, none⟩ = some (.int .i64 l[k].x) ∧ w.cell? ⟨b, off + k * 3 + 2, none⟩ = some (.int .i64 l[k].y) := by
  obtain ⟨b, off, hz, e, hb, hc⟩ := h.atc (by decide) plC_len hk
  exact ⟨b, off, hz, e, hb, hc 0 _ (by decide) rfl, hc 1 _ (by decide) rfl, hc 2 _ (by decide) rfl⟩
def placesB (F : Int) (ps : List Pl) : Bool := ps.all fun p => placeB F p.n p.x p.y

/-- What becomes of a cell if another shadow is joined. -/
def upC (c x : Int) : Int := if x = 35 ∨ (x = 43 ∧ c = 46) then x else c
def joinS (s t : ByteArray) : ByteArray := strOfNums (List.zipWith upC (ltr s) (ltr t))
def tri (x : Int) : Prop := x = 46 ∨ x = 35 ∨ x = 43
theorem upC_tri {c x : Int} (hc : tri c) (hx : tri x) : tri (upC c x) := by unfold upC; split <;> assumption
theorem tri_byte {x : Int} (h : tri x) : 0 ≤ x ∧ x < 256 := by rcases h with h | h | h <;> omega

def cellFP (F L X Y : Int) (z : Fig × Pl) (k q : Nat) : Int := cellS F L X Y z.2.n z.2.x z.2.y z.1.rows (wdOf z.1.rows) z.1.rows.length k q
theorem cellFP_tri (F L X Y : Int) (z : Fig × Pl) (k q : Nat) : tri (cellFP F L X Y z k q) := toneS_3 ..
def jcell (F L X Y : Int) (l : List (Fig × Pl)) (k q : Nat) : Int := l.foldl (fun c z => upC c (cellFP F L X Y z k q)) 46
theorem jcell_snoc (F L X Y : Int) (l : List (Fig × Pl)) (z : Fig × Pl) (k q : Nat) : jcell F L X Y (l ++ [z]) k q = upC (jcell F L X Y l k q) (cellFP F L X Y z k q) := by
  unfold jcell; rw [List.foldl_append]; rfl
theorem fold_tri (F L X Y : Int) (k q : Nat) : ∀ (l : List (Fig × Pl)) (c : Int), tri c → tri (l.foldl (fun c z => upC c (cellFP F L X Y z k q)) c)
  | [], _, h => h
  | z :: l, c, h => fold_tri F L X Y k q l _ (upC_tri h (cellFP_tri F L X Y z k q))
theorem jcell_tri (F L X Y : Int) (l : List (Fig × Pl)) (k q : Nat) : tri (jcell F L X Y l k q) := fold_tri F L X Y k q l 46 (.inl rfl)

/-- A cloth as one string, from what its cells are. -/
def clothS (W H : Nat) (g : Nat → Nat → Int) : ByteArray := strOfNums ((List.range (W * H)).map fun j => g (j % W) (j / W))
theorem clothS_size (W H : Nat) (g : Nat → Nat → Int) : (clothS W H g).size = W * H := by unfold clothS; rw [strOfNums_size]; simp
theorem clothS_ltr (W H : Nat) (g : Nat → Nat → Int) (hg : ∀ k q, tri (g k q)) : ltr (clothS W H g) = (List.range (W * H)).map fun j => g (j % W) (j / W) :=
  ltr_nums _ fun x hx => by obtain ⟨j, _, rfl⟩ := List.mem_map.1 hx; exact tri_byte (hg _ _)
theorem clothS_row {W H q : Nat} (g : Nat → Nat → Int) (hW : 1 ≤ W) (hq : q < H) :
    strOfNums ((List.range W).map fun c => g c q) = (clothS W H g).extract (q * W) (q * W + W) := by
  have hle : q * W + W ≤ W * H := by
    have h1 := Nat.mul_le_mul_right W (show q + 1 ≤ H by omega)
    rw [Nat.add_mul, Nat.one_mul, Nat.mul_comm H W] at h1; exact h1
  refine ByteArray.ext ?_
  rw [ByteArray.data_extract]
  refine Array.ext' ?_
  unfold clothS strOfNums
  rw [Array.toList_extract, List.extract_eq_take_drop, show q * W + W - q * W = W by omega]
  refine List.ext_getElem? fun j => ?_
  by_cases hj : j < W
  · rw [List.getElem?_take, if_pos hj, List.getElem?_drop]
    simp only [List.getElem?_map]
    have e1 : (q * W + j) % W = j := by rw [Nat.mul_add_mod_self_right, Nat.mod_eq_of_lt hj]
    have e2 : (q * W + j) / W = q := by rw [Nat.add_comm, Nat.add_mul_div_right _ _ (by omega), Nat.div_eq_of_lt hj, Nat.zero_add]
    rw [List.getElem?_range hj, List.getElem?_range (by omega)]
    simp only [Option.map_some, e1, e2]
  · rw [List.getElem?_take, if_neg hj, List.getElem?_eq_none (by simp; omega)]
theorem shS_cloth (Wn Hn : Nat) (F L X Y : Int) (z : Fig × Pl) : shS Wn Hn F L X Y z.2.n z.2.x z.2.y z.1.rows = clothS Wn Hn (cellFP F L X Y z) := by
  unfold shS clothS shadL cellFP; simp only [Int.toNat_natCast]
def jS (W H : Nat) (F L X Y : Int) (l : List (Fig × Pl)) : ByteArray := clothS W H (jcell F L X Y l)
theorem repeatL_46 (q : Nat) : Lib.repeatL [46] q = List.replicate q 46 := by
  induction q with
  | zero => rfl
  | succ q ih => rw [List.replicate_succ, ← ih]; rfl
theorem jS_nil (W H : Nat) (F L X Y : Int) : emptyS (W * H) = jS W H F L X Y [] := by
  unfold emptyS jS clothS jcell strOfNums
  rw [repeatL_46]
  congr 2
  simp only [List.foldl_nil, List.map_map]
  refine List.ext_getElem? fun j => ?_
  by_cases hj : j < W * H
  · rw [List.getElem?_replicate, if_pos hj, List.getElem?_map, List.getElem?_range hj]; rfl
  · rw [List.getElem?_eq_none (by simp; omega), List.getElem?_eq_none (by simp; omega)]
theorem jS_snoc (W H : Nat) (F L X Y : Int) (l : List (Fig × Pl)) (z : Fig × Pl) : joinS (jS W H F L X Y l) (shS W H F L X Y z.2.n z.2.x z.2.y z.1.rows) = jS W H F L X Y (l ++ [z]) := by
  rw [shS_cloth]
  unfold joinS jS
  rw [clothS_ltr W H _ (jcell_tri F L X Y l), clothS_ltr W H _ (cellFP_tri F L X Y z)]
  unfold clothS
  congr 1
  refine List.ext_getElem? fun j => ?_
  by_cases hj : j < W * H
  · rw [List.getElem?_zipWith, List.getElem?_map, List.getElem?_map, List.getElem?_map, List.getElem?_range hj]
    simp only [Option.map_some, jcell_snoc]
  · rw [List.getElem?_eq_none (by simp; omega), List.getElem?_eq_none (by simp; omega)]
theorem jS_size (W H : Nat) (F L X Y : Int) (l : List (Fig × Pl)) : (jS W H F L X Y l).size = W * H := clothS_size ..

/-- How two cloths meet, cell by cell. -/
def pairL (W : Nat) (q : Nat) (g h : Nat → Nat → Int) : List (Int × Int) := (List.range q).map fun j => (g (j % W) (j / W), h (j % W) (j / W))
theorem pairL_zip (W H : Nat) (g h : Nat → Nat → Int) (hg : ∀ k q, tri (g k q)) (hh : ∀ k q, tri (h k q)) : (ltr (clothS W H g)).zip (ltr (clothS W H h)) = pairL W (W * H) g h := by
  rw [clothS_ltr W H g hg, clothS_ltr W H h hh]
  unfold pairL
  rw [List.zip_map']
theorem pairL_step (W : Nat) (g h : Nat → Nat → Int) (p : Int × Int → Bool) (q k : Nat) (hk : k < W) : (pairL W (q * W + (k + 1)) g h).any p = ((pairL W (q * W + k) g h).any p || p (g k q, h k q)) := by
  unfold pairL
  rw [← Nat.add_assoc, List.range_succ, List.map_append, List.any_append]
  have e1 : (q * W + k) % W = k := by rw [Nat.mul_add_mod_self_right, Nat.mod_eq_of_lt hk]
  have e2 : (q * W + k) / W = q := by rw [Nat.add_comm, Nat.add_mul_div_right _ _ (by omega), Nat.div_eq_of_lt hk, Nat.zero_add]
  simp [e1, e2]
/-- The word so far, if no cell is dark in both. -/
def meetK (l : List (Int × Int)) : Int := if l.any bothG then 2 else 1
theorem meetK_step (W : Nat) (g h : Nat → Nat → Int) (q k : Nat) (hk : k < W) : meetK (pairL W (q * W + (k + 1)) g h) = if bothG (g k q, h k q) then 2 else meetK (pairL W (q * W + k) g h) := by
  unfold meetK
  rw [pairL_step W g h bothG q k hk]
  cases (pairL W (q * W + k) g h).any bothG <;> cases bothG (g k q, h k q) <;> rfl
theorem pairL_full (W : Nat) (g h : Nat → Nat → Int) (q m : Nat) (p : Int × Int → Bool) (hqm : q ≤ m) (hp : (pairL W q g h).any p = true) : (pairL W m g h).any p = true := by
  rw [List.any_eq_true] at hp ⊢
  obtain ⟨x, hx, hpx⟩ := hp
  obtain ⟨j, hj, rfl⟩ := List.mem_map.1 hx
  exact ⟨_, List.mem_map.2 ⟨j, List.mem_range.2 (by have := List.mem_range.1 hj; omega), rfl⟩, hpx⟩
end Go.Proofs.YtifddfchpknkbaaGreatDoor

namespace Go.Proofs.YtifddfchpknkbaaGreatDoor
open Go.ChangeShapes Go.WideShapes Go.ChangeAt Go.RowKit Go.Deep

section
variable {H : Type} {enc : TypeId × Value → H} {P : Program} {w : World} {base : Nat} {spare : Nat → Bool} {held : Bool} {r : Reach} {b0 : Nat} {v : Value} {d : DataW H} {p : List MemPlace}

/-- All cells of a value of type t are numbers; there are k of them. -/
def AllInt (enc : TypeId × Value → H) (P : Program) (w : World) (base : Nat) (spare : Nat → Bool) (held : Bool) (t : TypeId) (k : Nat) : Prop :=
  P.cellsOf t = k ∧ ∀ (n : Nat) (cs : List Value) (y : Option (DataW H × List MemPlace)), y.isSome = true → DataW.trod enc P w base spare held n t cs = y → ∃ ns : List Int, ns.length = k ∧ cs = ns.map (Value.int .i64)
theorem allInt_int {t : TypeId} (h3 : P.underlying t = some (.int .i64)) (hc : P.cellsOf t = 1) : AllInt enc P w base spare held t 1 := by
  refine ⟨hc, fun n cs y hy h => ?_⟩
  obtain ⟨y', rfl⟩ := Option.isSome_iff_exists.1 hy
  obtain ⟨k, hk, _⟩ := DataW.trod_int h3 h
  exact ⟨[k], rfl, by simpa using hk⟩
theorem allInt_struct {t : TypeId} {fs : Array Field} (ks : List Nat) (ht : P.underlying t = some (.struct fs)) (hC : P.cellsOf t = ks.sum) (hl : fs.size = ks.length)
    (hf : ∀ (i : Nat) (f : Field) (k : Nat), fs[i]? = some f → ks[i]? = some k → f.offset = (ks.take i).sum ∧ AllInt enc P w base spare held f.type k) : AllInt enc P w base spare held t ks.sum := by
  refine ⟨hC, fun n cs y hy h => ?_⟩
  obtain ⟨y', rfl⟩ := Option.isSome_iff_exists.1 hy
  obtain ⟨xs, m, _, _, hlen, hxl, hg⟩ := DataW.trod_struct ht h
  have each : ∀ j, j ≤ ks.length → ∃ ns : List Int, ns.length = (ks.take j).sum ∧ cs.take (ks.take j).sum = ns.map (Value.int .i64) := by
    intro j
    induction j with
    | zero => intro _; exact ⟨[], rfl, by simp⟩
    | succ j ih =>
      intro hj
      obtain ⟨ns, h1, h2⟩ := ih (by omega)
      have hfj : fs[j]? = some fs[j] := Array.getElem?_eq_getElem (by omega)
      have hkj : ks[j]? = some ks[j] := List.getElem?_eq_getElem (by omega)
      obtain ⟨ho, hc, ha⟩ := hf j _ _ hfj hkj
      obtain ⟨ms, h3, h4⟩ := ha _ _ _ (some_of_len hxl (by omega)) (hg j _ hfj)
      rw [ho, hc] at h4
      have hs : (ks.take (j + 1)).sum = (ks.take j).sum + ks[j] := by rw [List.take_succ_eq_append_getElem (by omega), List.sum_append]; simp
      refine ⟨ns ++ ms, by rw [List.length_append, h1, h3, hs], ?_⟩
      rw [hs, List.take_add, h2, h4, List.map_append]
  obtain ⟨ns, h1, h2⟩ := each ks.length (Nat.le_refl _)
  rw [List.take_length] at h1 h2
  rw [List.take_of_length_le (by rw [hlen, hC]; exact Nat.le_refl _)] at h2
  exact ⟨ns, h1, h2⟩
/-- A struct of numbers that came in. -/
theorem agg_in {t : TypeId} {fs : Array Field} {k : Nat} (ht : P.underlying t = some (.struct fs)) (ha : AllInt enc P w base spare held t k) (hv : Value.okWide P w r b0 t v) (h : DataW.Trod enc P w base spare held t v d p) :
    ∃ ns : List Int, ns.length = k ∧ v = .agg (ns.map (Value.int .i64)).toArray := by
  obtain ⟨cs, rfl, hsz⟩ := okWide_struct ht hv
  obtain ⟨fuel, hfu⟩ := h
  obtain ⟨ns, h1, h2⟩ := ha.2 _ _ _ rfl hfu
  refine ⟨ns, h1, ?_⟩
  congr 1
  simp only [Value.cells] at h2
  rw [← h2]

/-- A slice of structs of numbers, or of numbers. -/
def rowC (k : Nat) (g : Nat → Int) : List Value := (List.range k).map fun j => Value.int .i64 (g j)
theorem rowC_len (k : Nat) (g : Nat → Int) : (rowC k g).length = k := by simp [rowC]
def IntsIn (w : World) (k : Nat) (c : Value) : Prop := ∃ (A : Option Addr) (n cap : Nat) (gs : List (Nat → Int)), c = .slice A n cap ∧ n ≤ cap ∧ cap ≤ maxLen ∧ Rd w w.heap.size k A n (gs.flatMap (rowC k))
theorem slice_ints_in {fuel : Nat} {t e : TypeId} {k : Nat} {c : Value} {y : DataW H × List MemPlace} (hk : 0 < k) (ht : P.underlying t = some (.slice e)) (ha : AllInt enc P w base spare held e k) (h : DataW.trod enc P w base spare held fuel t [c] = some y) : IntsIn w k c := by
  rcases open_slice ht h with ⟨hc, _⟩ | ⟨a, len, cap, m, n, D, Pl, hc, _, hl, hm, hmm, _, hx⟩
  · obtain rfl : c = .slice none 0 0 := by simpa using hc
    exact ⟨none, 0, 0, [], rfl, Nat.le_refl _, Nat.zero_le _, Rd.nil ..⟩
  · obtain rfl : c = .slice (some a) len cap := by simpa using hc
    have hlm : len ≤ m := by rw [hmm]; split <;> omega
    have each : ∀ i, ∃ g : Nat → Int, i < len → ∀ j, j < k → w.cell? ((a.add (i * k)).add j) = some (.int .i64 (g j)) := by
      intro i
      by_cases hi : i < len
      · obtain ⟨cs', h1, h2⟩ := hx i (by omega)
        rw [ha.1] at h1
        obtain ⟨_, hcl, hat⟩ := World.cells?_some h1
        obtain ⟨ns, h3, h4⟩ := ha.2 _ _ _ rfl h2
        refine ⟨fun j => ns.getD j 0, fun _ j hj => ?_⟩
        rw [hat j hj, h4, List.getElem?_map, List.getElem?_eq_getElem (by omega)]
        simp [List.getD_eq_getElem?_getD, h3, hj]
      · exact ⟨fun _ => 0, fun h => absurd h hi⟩
    obtain ⟨g, hg⟩ : ∃ g : Nat → Nat → Int, ∀ i, i < len → ∀ j, j < k → w.cell? ((a.add (i * k)).add j) = some (.int .i64 (g i j)) :=
      ⟨fun i => Classical.choose (each i), fun i => Classical.choose_spec (each i)⟩
    refine ⟨some a, len, cap, (List.range len).map g, rfl, hl, hm, by rw [flatc_len _ k (rowC_len k)]; simp, fun h0 => ?_⟩
    have g0 := hg 0 h0 0 hk
    obtain ⟨b, off, spot⟩ := a
    have hspot : spot = none := by
      have := World.cell?_spot g0
      simp only [Nat.zero_mul, Addr.add] at this
      simpa using this
    subst hspot
    have hb : b < w.heap.size := by have := block_lt_of_cell g0; simpa [Addr.add] using this
    refine ⟨b, off, rfl, hb, fun q u hu => ?_⟩
    have hq : q < len * k := by
      rcases Nat.lt_or_ge q (len * k) with h | h
      · exact h
      · rw [List.getElem?_eq_none (by rw [flatc_len _ k (rowC_len k)]; simpa using h)] at hu; cases hu
    have hi : q / k < len := by rw [Nat.div_lt_iff_lt_mul hk]; exact hq
    have hj : q % k < k := Nat.mod_lt _ hk
    have hqe : q = q / k * k + q % k := by rw [Nat.mul_comm]; exact (Nat.div_add_mod q k).symm
    rw [hqe, flatc_at _ k (rowC_len k) _ (q / k) (q % k) (by simpa using hi) hj] at hu
    simp only [List.getElem_map, List.getElem_range, rowC, List.getElem?_map, List.getElem?_range hj, Option.map_some, Option.some.injEq] at hu
    rw [← hu, ← hg (q / k) hi (q % k) hj]
    congr 1
    rw [add_of_add, ← hqe]
    unfold Addr.add
    by_cases h : q = 0 <;> simp [h]

/-- A slice of figures that came in: structs of one field, a slice of strings. -/
def FigsIn (w : World) (c : Value) : Prop := ∃ (A : Option Addr) (n cap : Nat) (fs : List Fig), c = .slice A n cap ∧ n ≤ cap ∧ cap ≤ maxLen ∧ (∀ f ∈ fs, f.ok w w.heap.size) ∧ Rd w w.heap.size 1 A n (fs.map Fig.val)
theorem figs_in {fuel : Nat} {t e tr s : TypeId} {f0 : Field} {c : Value} {y : DataW H × List MemPlace} (ht : P.underlying t = some (.slice e)) (he : P.underlying e = some (.struct #[f0])) (hC : P.cellsOf e = 1) (hone : oneCellFields P #[f0] = true) (h0 : f0.type = tr) (hr : P.underlying tr = some (.slice s)) (hs : P.underlying s = some .string) (hc1 : P.cellsOf s = 1)
    (h : DataW.trod enc P w base spare held fuel t [c] = some y) : FigsIn w c := by
  rcases open_slice1 ht hC h with ⟨hc, _⟩ | ⟨a, len, cap, m, n, V, D, Pl, hc, _, hl, hm, hmm, _, hx⟩
  · obtain rfl : c = .slice none 0 0 := by simpa using hc
    exact ⟨none, 0, 0, [], rfl, Nat.le_refl _, Nat.zero_le _, fun r hr => (by cases hr), Rd.nil ..⟩
  · obtain rfl : c = .slice (some a) len cap := by simpa using hc
    have hlm : len ≤ m := by rw [hmm]; split <;> omega
    have each : ∀ i, ∃ f : Fig, i < len → w.cell? (a.add i) = some f.val ∧ f.ok w w.heap.size := by
      intro i
      by_cases hi : i < len
      · obtain ⟨h1, h2⟩ := hx i (by omega)
        obtain ⟨xs, k, _, _, _, hxl, hg⟩ := DataW.trod_struct he h2
        obtain ⟨ho, hk⟩ := hone_of hone 0 f0 rfl
        have g0 := hg 0 f0 rfl
        rw [ho, hk, h0] at g0
        obtain ⟨y', hy'⟩ := Option.isSome_iff_exists.1 (some_of_len (n := 1) hxl (i := 0) (by omega))
        rw [hy'] at g0
        obtain ⟨A, n', cap', rows, e1, e2, e3, e4, e5⟩ := open_strs_in hr hs hc1 (c := V i) (by simpa using g0)
        exact ⟨⟨A, n', cap', rows⟩, fun _ => ⟨by rw [h1, e1]; rfl, e2, e3, e4, e5⟩⟩
      · exact ⟨⟨none, 0, 0, []⟩, fun h => absurd h hi⟩
    obtain ⟨g, hg⟩ : ∃ g : Nat → Fig, ∀ i, i < len → w.cell? (a.add i) = some (g i).val ∧ (g i).ok w w.heap.size :=
      ⟨fun i => Classical.choose (each i), fun i => Classical.choose_spec (each i)⟩
    refine ⟨some a, len, cap, (List.range len).map g, rfl, hl, hm, fun f hf => ?_, by simp, fun h0 => ?_⟩
    · obtain ⟨i, hi, rfl⟩ := List.mem_map.1 hf
      exact (hg i (List.mem_range.1 hi)).2
    · have g0 := (hg 0 h0).1
      obtain ⟨b, off, spot⟩ := a
      have hspot : spot = none := by simpa [Addr.add] using World.cell?_spot g0
      subst hspot
      refine ⟨b, off, rfl, block_lt_of_cell g0, fun i u hu => ?_⟩
      rw [List.getElem?_map, List.getElem?_map] at hu
      by_cases hi : i < len
      · rw [List.getElem?_range hi] at hu
        have hu' : (g i).val = u := by simpa using hu
        rw [← hu']
        have hci := (hg i hi).1
        rcases i with _ | i <;> simpa [Addr.add] using hci
      · rw [List.getElem?_eq_none (by simpa using hi)] at hu
        cases hu
end
end Go.Proofs.YtifddfchpknkbaaGreatDoor
