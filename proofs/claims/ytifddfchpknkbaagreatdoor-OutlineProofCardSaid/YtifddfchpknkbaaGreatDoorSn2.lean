import Derived.Test.YtifddfchpknkbaaGreatDoorSm
set_option linter.unusedVariables false
set_option linter.unusedSimpArgs false
namespace Go.Proofs.YtifddfchpknkbaaGreatDoor
open Go.RowKit

theorem SI.far {base g n cap B : Nat} {ds xs : List Nat} {w W W3 : World} (h : SI base g n cap ds xs w W) (hgB : g < B) (hbB : base ≤ B) (hb : Below B W W3) : SI base g n cap ds xs w W3 :=
  ⟨h.1, ownsRow_below h.2.1 hb (fun g' hg' => by injection hg' with e; subst e; exact hgB), h.2.2.trans (hb.mono hbB)⟩

def BrkPost (base g n cap : Nat) (ds : List Nat) (w : World) (e : Ending) (w' : World) : Prop :=
  e = .returned (.tuple #[]) ∧ ∃ xs : List Nat, SI base g n cap ds xs w w'

set_option maxRecDepth 100000 in
set_option maxHeartbeats 3200000 in
theorem break_any (base g cap n a b : Nat) (ds : List Nat) (w : World) (hab : a + 12 < b) (hbn : b ≤ n) (hn : n ≤ 1000000) (hgb : base ≤ g) (hbase : base ≤ w.heap.size) (hl : ds.length = n) (hown : w.ownsRow base 177 1 (srow g n cap) n (ds.map u64V)) :
    Calls Tryz.prog 211 #[srow g n cap, .int .i64 a, .int .i64 b] w (BrkPost base g n cap ds w) := by
  have H0 : SI base g n cap ds ds w w := ⟨.refl _, hown, Below.refl _ _⟩
  have hgl := H0.lt
  clear hown
  obtain ⟨d, hd⟩ : ∃ d : Nat, b = a + d := ⟨b - a, by omega⟩
  obtain ⟨e, f, hef, hf⟩ : ∃ e f : Nat, d = 4 * e + f ∧ f < 4 := ⟨d / 4, d % 4, by omega, by omega⟩
  obtain ⟨j, hj⟩ : ∃ i : Nat, i = a + e * 2 := ⟨_, rfl⟩
  obtain ⟨j1, hj1⟩ : ∃ i : Nat, j = i + 1 := ⟨j - 1, by omega⟩
  obtain ⟨jj, hjj⟩ : ∃ i : Nat, i = j + 1 := ⟨_, rfl⟩
  have hdI : (b : Int) - (a : Int) = (d : Int) := by omega
  have heI : (d : Int) / 4 = (e : Int) := by omega
  have hjI : (a : Int) + (e : Int) * 2 = (j : Int) := by omega
  have hj1I : (j : Int) - 1 = (j1 : Int) := by omega
  have hjjI : (j : Int) + 1 = (jj : Int) := by omega
  have hd8 : 8 ≤ d := by omega
  have hdn : d ≤ 1000000 := by omega
  have hen : e ≤ 1000000 := by omega
  have hjn : jj < b := by omega
  have hj1j : j1 ≤ jj := by omega
  have hadn : a + d ≤ n := by omega
  have han : a ≤ 1000000 := by omega
  have hjn2 : j ≤ 1000000 := by omega
  clear hd hef hf hj hj1 hjj
  have hu : IntKind.u64.wrap (d : Int) = (d : Int) := by rw [IntKind.wrap_u64]; omega
  have q0 := Blk.new w 287 #[.int .u64 0]
  have hq := q0.frozen 0
  have hqc := q0.cell 0
  have hB : Below w.heap.size w (w.alloc (.cells #[.int .u64 (d : Int)] 287)) := (Below.refl _ w).alloc (Nat.le_refl _) _
  have HQ := Lib.hid (Blk.new w 287 #[.int .u64 (d : Int)])
  have H1 := Lib.hid (H0.far hgl hbase hB)
  clear hB H0 q0
  have P := fun W => pow_any d W (by omega) hdn
  go_enter Tryz.func211, Tryz.ntmps211
  go_wp2_with (first | (go_at_call 231; refine (P _).mono ?_; rintro e w' ⟨M, rfl, hM, rfl⟩))
  clear hq hqc P
  go_loopg [9] (jj + 1 - j1) (fun gg i wr => ∃ (i' X : Nat) (xs : List Nat), gg = jj + 1 - i' ∧ j1 ≤ i' ∧ i' ≤ jj + 1 ∧ i = .int .i64 i' ∧ X < 18446744073709551616 ∧ Blk wr w.heap.size 287 #[.int .u64 (X : Int)] ∧ SI base g n cap ds xs w wr)
  case atStart => exact ⟨j1, d, ds, rfl, by omega, by omega, by go_num, by omega, HQ.out, H1.out⟩
  case round =>
    clear H1 HQ
    obtain ⟨i, X, xs, hg, hi1, hi2, rfl, hX, hXb, H1⟩ := hrel
    have HG := Lib.hid hg; clear hg
    rename World => W1
    have hrg : w.heap.size ≠ g := by omega
    by_cases h1 : i ≤ jj
    · have hin : i < n := by omega
      have HA : ∀ C : Nat, C < 18446744073709551616 → ∃ o : Nat, o < 2 * d ∧ bits .and .u64 (C : Int) (M : Int) = (o : Int) := fun C hC =>
        ⟨C &&& M, by have := @Nat.and_le_right C M; omega, bits_and_u64_nat C M hC (by omega)⟩
      go_wp2_with (first | (go_at_call 232; refine (xor_any w.heap.size X _ hX hXb).mono ?_; rintro e w2 ⟨C, rfl, hC, hb2, hX2⟩; obtain ⟨o, ho, hA⟩ := HA C hC; have H2 := H1.far hgl hbase hb2))
      · have hod : d ≤ o := by omega
        obtain ⟨k, hkE⟩ : ∃ k : Nat, (k : Int) = (a : Int) + ((o : Int) - (d : Int)) := ⟨((a : Int) + ((o : Int) - (d : Int))).toNat, by omega⟩
        have hkI : (a : Int) + ((o : Int) - (d : Int)) = (k : Int) := by omega
        have hkn : k < n := by omega
        clear hkE
        obtain ⟨sa5, sc5⟩ := H2.at hl (j := i) (by omega)
        obtain ⟨sb5, sd5⟩ := H2.at hl (j := k) (by omega)
        have sy5 := H2.2.1.frozenAt (i)
        have sz5 := H2.2.1.frozenAt (k)
        obtain ⟨⟨us, S5⟩, ⟨su5, sv5⟩⟩ := H2.swap hl hgb (p := i) (q := k) (by omega) (by omega) sc5 sd5
        have hin5 : i < n := by omega
        have hjn5 : k < n := by omega
        have S5 := Lib.hid S5
        have hX5 := Lib.hid ((hX2.far (p := ⟨g, i, none⟩) hrg (.int .u64 (sb5 : Int))).far (p := ⟨g, k, none⟩) hrg (.int .u64 (sa5 : Int)))
        clear H2 hX2
        go_region
        go_wp2
        go_roundg (jj + 1 - (i + 1))
        case measure => rw [HG.out]; omega
        case rel => exact ⟨i + 1, C, us, rfl, by omega, by omega, by go_num, hC, hX5.out, S5.out⟩
      · have hod : o < d := by omega
        obtain ⟨k, hkE⟩ : ∃ k : Nat, (k : Int) = (a : Int) + (o : Int) := ⟨((a : Int) + (o : Int)).toNat, by omega⟩
        have hkI : (a : Int) + (o : Int) = (k : Int) := by omega
        have hkn : k < n := by omega
        clear hkE
        obtain ⟨sa5, sc5⟩ := H2.at hl (j := i) (by omega)
        obtain ⟨sb5, sd5⟩ := H2.at hl (j := k) (by omega)
        have sy5 := H2.2.1.frozenAt (i)
        have sz5 := H2.2.1.frozenAt (k)
        obtain ⟨⟨us, S5⟩, ⟨su5, sv5⟩⟩ := H2.swap hl hgb (p := i) (q := k) (by omega) (by omega) sc5 sd5
        have hin5 : i < n := by omega
        have hjn5 : k < n := by omega
        have S5 := Lib.hid S5
        have hX5 := Lib.hid ((hX2.far (p := ⟨g, i, none⟩) hrg (.int .u64 (sb5 : Int))).far (p := ⟨g, k, none⟩) hrg (.int .u64 (sa5 : Int)))
        clear H2 hX2
        go_region
        go_wp2
        go_roundg (jj + 1 - (i + 1))
        case measure => rw [HG.out]; omega
        case rel => exact ⟨i + 1, C, us, rfl, by omega, by omega, by go_num, hC, hX5.out, S5.out⟩
    · go_wp2
      go_end0
      exact ⟨rfl, xs, H1⟩
end Go.Proofs.YtifddfchpknkbaaGreatDoor
