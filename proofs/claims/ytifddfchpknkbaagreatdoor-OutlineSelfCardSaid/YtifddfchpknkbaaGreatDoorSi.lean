import Derived.Test.YtifddfchpknkbaaGreatDoorSh2
import Derived.Test.YtifddfchpknkbaaGreatDoorOc
set_option linter.unusedVariables false
set_option linter.unusedSimpArgs false
namespace Go.Proofs.YtifddfchpknkbaaGreatDoor
open Go.RowKit

theorem self_row {Wn Hn : Nat} {F L X Y PX PY : Int} {rows : List ByteArray} (hv : figB rows = true) (hF : 0 < F) (hL : 0 ≤ L) (hW : 1 ≤ Wn) (m k : Nat) (hm : m < Hn) (hk : k < Wn) :
    ∃ r : ByteArray, ∃ hk : k < r.size, (rowsOf (shS Wn Hn F L X Y 0 PX PY rows) Wn Hn)[m]? = some r ∧ ((r[k]'hk).toNat : Int) = hideV rows (k - PX) (m - PY) := by
  obtain ⟨r, g1, g2, g3⟩ := sh_cell (W := (Wn : Int)) (H := (Hn : Int)) (F := F) (L := L) (X := X) (Y := Y) (N := 0) (PX := PX) (PY := PY) (rows := rows) (k := k) (m := m) (by omega) (by simpa using hk) (by simpa using hm)
  simp only [Int.toNat_natCast] at g1
  rw [self_cell hv hF hL] at g3
  obtain ⟨hk, hz⟩ := ltr_get g3
  exact ⟨r, hk, g1, hz⟩
theorem self_law (W H F L X Y x y dx dy : Int) (A : Option Addr) (n cap : Nat) (rows : List ByteArray) (m : Int) (w : World) (hm : w.cell? ⟨0, 0, none⟩ = some (.int .i64 m)) (hcap : n ≤ cap) (hcm : cap ≤ maxLen) (hs : ∀ r ∈ rows, r.size ≤ maxLen) (hr : Rd w w.heap.size 1 A n (rows.map Value.string)) :
    Calls Tryz.prog 5 #[.agg #[.int .i64 W, .int .i64 H, .int .i64 F, .int .i64 L, .int .i64 X, .int .i64 Y], .agg #[.slice A n cap], .int .i64 x, .int .i64 y, .int .i64 dx, .int .i64 dy] w fun e w' => e = .returned (.bool true) ∧ Below w.heap.size w w' := by
  cases hsh : shortB rows
  · exact self_x1 W H F L X Y x y dx dy A n cap rows m w hm hcap hcm hs hr hsh
  cases hst : stageB W H F L X Y
  · exact self_x2 W H F L X Y x y dx dy A n cap rows m w hm hcap hcm hs hr hsh hst
  cases hfg : figB rows
  · exact self_x3 W H F L X Y x y dx dy A n cap rows m w hm hcap hcm hs hr hsh hst hfg
  cases hp1 : (inB x (-20) 20 && inB y (-20) 20)
  · exact self_x4 W H F L X Y x y dx dy A n cap rows m w hm hcap hcm hs hr hsh hst hfg hp1
  cases hp2 : (inB dx (-20) 20 && inB dy (-20) 20)
  · exact self_x5 W H F L X Y x y dx dy A n cap rows m w hm hcap hcm hs hr hsh hst hfg hp1 hp2
  cases hp3 : (inB (x + dx) (-20) 20 && inB (y + dy) (-20) 20)
  · exact self_x6 W H F L X Y x y dx dy A n cap rows m w hm hcap hcm hs hr hsh hst hfg hp1 hp2 hp3
  have ⟨⟨a1, a2⟩, ⟨a3, a4⟩, ⟨a5, a6⟩, ⟨a7, a8⟩, ⟨a9, a10⟩, a11, a12⟩ := stageB_nums hst
  obtain ⟨⟨f1, f2⟩, f3, f4, f5⟩ := figB_nums hfg
  have hpa : placeB F 0 x y = true := by simp [placeB, inB] at hp1 ⊢; omega
  have hpb : placeB F 0 (x + dx) (y + dy) = true := by simp [placeB, inB] at hp3 ⊢; omega
  have hva : viewB W H F L X Y 0 x y rows = true := by rw [viewB, hst, hfg, hpa]; rfl
  have hvb : viewB W H F L X Y 0 (x + dx) (y + dy) rows = true := by rw [viewB, hst, hfg, hpb]; rfl
  have hng := self_nogrey (W := W) (H := H) (F := F) (L := L) (X := X) (Y := Y) (PX := x) (PY := y) hfg (by omega) a7
  obtain ⟨Wn, rfl⟩ : ∃ k : Nat, W = k := ⟨W.toNat, by omega⟩
  obtain ⟨Hn, rfl⟩ : ∃ k : Nat, H = k := ⟨H.toNat, by omega⟩
  have hsza := shS_size Wn Hn F L X Y 0 x y rows
  have hszb := shS_size Wn Hn F L X Y 0 (x + dx) (y + dy) rows
  have hwa := whole_sh (F := F) (L := L) (X := X) (Y := Y) (N := 0) (PX := x) (PY := y) (rows := rows) a1 a3
  have hwb := whole_sh (F := F) (L := L) (X := X) (Y := Y) (N := 0) (PX := x + dx) (PY := y + dy) (rows := rows) a1 a3
  simp only [Int.toNat_natCast] at hwa hwb hsza hszb
  have hlen := hr.len
  refine self_main Wn Hn F L X Y x y dx dy A n cap rows m w hm hcap hcm hs hr (rowsOf (shS Wn Hn F L X Y 0 x y rows) Wn Hn) (rowsOf (shS Wn Hn F L X Y 0 (x + dx) (y + dy) rows) Wn Hn) (cntL (ltr (shS Wn Hn F L X Y 0 x y rows)) [35] : Nat)
    hsh hst hfg hp1 hp2 hp3 (Lib.hid (by rw [hva]; rfl)) (Lib.hid (by rw [hvb]; rfl)) (Lib.hid (by rw [shadowRows, if_pos hva]; rfl)) (Lib.hid (by rw [shadowRows, if_pos hvb]; rfl))
    (Lib.hid (by unfold countsR; rw [if_pos hva, hng]; rfl)) (by rw [rowsOf_len]; omega) (by rw [rowsOf_len]; omega)
    (fun s hs => by obtain ⟨i, hi, rfl⟩ := rowsOf_mem hs; rw [cut_size hsza hi]; omega) (fun s hs => by obtain ⟨i, hi, rfl⟩ := rowsOf_mem hs; rw [cut_size hszb hi]; omega)
    (by omega) (fun s hs => by rw [f5 s hs]; omega) (Lib.hid hwa) (Lib.hid hwb)
    (Lib.hid fun m k hm hk => self_row hfg (by omega) a7 (by omega) m k hm hk) (Lib.hid fun m k hm hk => self_row hfg (by omega) a7 (by omega) m k hm hk)
end Go.Proofs.YtifddfchpknkbaaGreatDoor
