import Derived.Test.YtifddfchpknkbaaGreatDoorRf
import Derived.Test.YtifddfchpknkbaaGreatDoorOc
set_option linter.unusedVariables false
set_option linter.unusedSimpArgs false
namespace Go.Proofs.YtifddfchpknkbaaGreatDoor
open Go.RowKit

theorem rays_law (W H F L X Y N PX PY c r u v a b : Int) (A : Option Addr) (n cap : Nat) (rows : List ByteArray) (m : Int) (w : World) (hm : w.cell? ⟨0, 0, none⟩ = some (.int .i64 m)) (hcap : n ≤ cap) (hcm : cap ≤ maxLen) (hs : ∀ r ∈ rows, r.size ≤ maxLen) (hr : Rd w w.heap.size 1 A n (rows.map Value.string)) :
    Calls Tryz.prog 4 #[.agg #[.int .i64 W, .int .i64 H, .int .i64 F, .int .i64 L, .int .i64 X, .int .i64 Y], .agg #[.slice A n cap], .agg #[.int .i64 N, .int .i64 PX, .int .i64 PY], .int .i64 c, .int .i64 r, .int .i64 u, .int .i64 v, .int .i64 a, .int .i64 b] w fun e w' => e = .returned (.bool true) ∧ Below w.heap.size w w' := by
  refine rays_out W H F L X Y N PX PY c r u v a b A n cap rows m w hm hcap hcm hs hr ?_
  intro hsh hst hfg hpl h5 h6 h7 h8 h9 h10 h11 h12 h13 h14 h15 h16
  have ⟨⟨a1, a2⟩, ⟨a3, a4⟩, ⟨a5, a6⟩, ⟨a7, a8⟩, ⟨a9, a10⟩, a11, a12⟩ := stageB_nums hst
  have ⟨⟨b1, b2⟩, ⟨b3, b4⟩, b5, b6⟩ := placeB_nums hpl
  have hv : viewB W H F L X Y N PX PY rows = true := by rw [viewB, hst, hfg, hpl]; rfl
  obtain ⟨⟨f1, f2⟩, f3, f4, f5⟩ := figB_nums hfg
  obtain ⟨Wn, rfl⟩ : ∃ k : Nat, W = k := ⟨W.toNat, by omega⟩
  obtain ⟨Hn, rfl⟩ : ∃ k : Nat, H = k := ⟨H.toNat, by omega⟩
  obtain ⟨k, rfl⟩ : ∃ k : Nat, c = k := ⟨c.toNat, by omega⟩
  obtain ⟨q, rfl⟩ : ∃ k : Nat, r = k := ⟨r.toNat, by omega⟩
  have hsza := shS_size Wn Hn F L X Y N PX PY rows
  have hwa := whole_sh (F := F) (L := L) (X := X) (Y := Y) (N := N) (PX := PX) (PY := PY) (rows := rows) a1 a3
  obtain ⟨rA, g1, g2, g3⟩ := sh_cell (W := (Wn : Int)) (H := (Hn : Int)) (F := F) (L := L) (X := X) (Y := Y) (N := N) (PX := PX) (PY := PY) (rows := rows) (k := k) (m := q) (by omega) (by simp; omega) (by simp; omega)
  simp only [Int.toNat_natCast] at hwa hsza g1 g2
  obtain ⟨hk, hz⟩ := ltr_get g3
  have hlen := hr.len
  have e1 := mulB (x := X - PX) (y := 60 * F) (a := 40) (b := 2400) (by omega) (by omega) (by omega) (by omega)
  have e2 := mulB (x := 60 * ((k : Int) - X) + u) (y := F - N) (a := 2000) (b := 40) (by omega) (by omega) (by omega) (by omega)
  have e3 := mulB (x := a) (y := N) (a := 180) (b := 40) (by omega) (by omega) (by omega) (by omega)
  have e4 := mulB (x := Y - PY) (y := 60 * F) (a := 40) (b := 2400) (by omega) (by omega) (by omega) (by omega)
  have e5 := mulB (x := 60 * ((q : Int) - Y) + v) (y := F - N) (a := 2000) (b := 40) (by omega) (by omega) (by omega) (by omega)
  have e6 := mulB (x := b) (y := N) (a := 180) (b := 40) (by omega) (by omega) (by omega) (by omega)
  obtain ⟨c1, c2⟩ := ray_cell (F := F) (L := L) (X := X) (Y := Y) (N := N) (PX := PX) (PY := PY) (rows := rows) (k := k) (m := q) (u := u) (v := v) (a := a) (b := b) hfg b1 (by omega) a7 (by omega) (by omega) (by omega) (by omega)
  exact rays_main Wn Hn k q F L X Y N PX PY u v a b A n cap rows m w hm hcap hcm hs hr (rowsOf (shS Wn Hn F L X Y N PX PY rows) Wn Hn) rA (rayV X PX F N k u a) (rayV Y PY F N q v b) (hideV rows (rayV X PX F N k u a / (60 * F)) (rayV Y PY F N q v b / (60 * F)))
    hsh hst hfg hpl (by omega) (by omega) h9 h10 h11 h12 h13 h14 h15 h16
    (Lib.hid (by rw [hv]; rfl)) (Lib.hid (by rw [shadowRows, if_pos hv]; rfl)) (Lib.hid hwa) (by rw [rowsOf_len]; omega)
    (fun s hs => by obtain ⟨i, hi, rfl⟩ := rowsOf_mem hs; rw [cut_size hsza hi]; omega) (by omega) (fun s hs => by rw [f5 s hs]; omega)
    (Lib.hid rfl) (Lib.hid rfl) (by unfold rayV; omega) (by unfold rayV; omega) (Lib.hid rfl) g1 hk (fun h => c1 (hz.symm.trans h)) (fun h => c2 (hz.symm.trans h))
end Go.Proofs.YtifddfchpknkbaaGreatDoor
