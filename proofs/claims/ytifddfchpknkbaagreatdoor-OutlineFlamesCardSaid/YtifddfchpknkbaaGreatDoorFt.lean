import Derived.Test.YtifddfchpknkbaaGreatDoorFl
set_option linter.unusedVariables false
set_option linter.unusedSimpArgs false
namespace Go.Proofs.YtifddfchpknkbaaGreatDoor
open Go.RowKit

theorem flames_law (W H F L X Y N PX PY N2 PX2 PY2 more : Int) (A : Option Addr) (n cap : Nat) (rows : List ByteArray) (A2 : Option Addr) (n2 cap2 : Nat) (rows2 : List ByteArray) (m : Int) (w : World) (hm : w.cell? ⟨0, 0, none⟩ = some (.int .i64 m)) (hcap : n ≤ cap) (hcm : cap ≤ maxLen) (hs : ∀ r ∈ rows, r.size ≤ maxLen) (hr : Rd w w.heap.size 1 A n (rows.map Value.string)) (hcap2 : n2 ≤ cap2) (hcm2 : cap2 ≤ maxLen) (hs2 : ∀ r ∈ rows2, r.size ≤ maxLen) (hr2 : Rd w w.heap.size 1 A2 n2 (rows2.map Value.string)) :
    Calls Tryz.prog 18 #[.agg #[.int .i64 W, .int .i64 H, .int .i64 F, .int .i64 L, .int .i64 X, .int .i64 Y], .agg #[.slice A n cap], .agg #[.int .i64 N, .int .i64 PX, .int .i64 PY], .agg #[.slice A2 n2 cap2], .agg #[.int .i64 N2, .int .i64 PX2, .int .i64 PY2], .int .i64 more] w fun e w' => e = .returned (.bool true) ∧ Below w.heap.size w w' := by
  cases hin : (shortB rows && shortB rows2 && stageB W H F L X Y && figB rows && placeB F N PX PY && figB rows2 && placeB F N2 PX2 PY2 && (decide (0 ≤ more) && decide (more ≤ 3 - L)))
  · exact flames_out W H F L X Y N PX PY N2 PX2 PY2 more A n cap rows A2 n2 cap2 rows2 m w hm hcap hcm hs hr hcap2 hcm2 hs2 hr2 hin
  simp only [Bool.and_eq_true, decide_eq_true_eq] at hin
  obtain ⟨⟨⟨⟨⟨⟨⟨hsh, hsh2⟩, hst⟩, hfg⟩, hpl⟩, hfg2⟩, hpl2⟩, hm0, hm3⟩ := hin
  have ⟨⟨a1, a2⟩, ⟨a3, a4⟩, ⟨a5, a6⟩, ⟨a7, a8⟩, ⟨a9, a10⟩, a11, a12⟩ := stageB_nums hst
  obtain ⟨⟨b1, b2⟩, _⟩ := placeB_nums hpl
  obtain ⟨⟨b3, b4⟩, _⟩ := placeB_nums hpl2
  obtain ⟨_, _, _, hw⟩ := figB_nums hfg
  obtain ⟨_, _, _, hw2⟩ := figB_nums hfg2
  have hst' : stageB W H F (L + more) X Y = true := by
    simp [stageB, inB] at hst ⊢; omega
  have hv : viewB W H F L X Y N PX PY rows = true := by rw [viewB, hst, hfg, hpl]; rfl
  have hv' : viewB W H F (L + more) X Y N PX PY rows = true := by rw [viewB, hst', hfg, hpl]; rfl
  have hv2 : viewB W H F L X Y N2 PX2 PY2 rows2 = true := by rw [viewB, hst, hfg2, hpl2]; rfl
  have hv2' : viewB W H F (L + more) X Y N2 PX2 PY2 rows2 = true := by rw [viewB, hst', hfg2, hpl2]; rfl
  obtain ⟨Wn, rfl⟩ : ∃ k : Nat, W = k := ⟨W.toNat, by omega⟩
  obtain ⟨Hn, rfl⟩ : ∃ k : Nat, H = k := ⟨H.toNat, by omega⟩
  have hP : Wn * Hn ≤ 256 := Nat.mul_le_mul (show Wn ≤ 16 by omega) (show Hn ≤ 16 by omega)
  have hsza := shS_size Wn Hn F L X Y N PX PY rows
  have hszb := shS_size Wn Hn F (L + more) X Y N PX PY rows
  have hwa := whole_sh (F := F) (L := L) (X := X) (Y := Y) (N := N) (PX := PX) (PY := PY) (rows := rows) a1 a3
  have hwb := whole_sh (F := F) (L := L + more) (X := X) (Y := Y) (N := N) (PX := PX) (PY := PY) (rows := rows) a1 a3
  simp only [Int.toNat_natCast] at hwa hwb hsza hszb
  refine flames_main Wn Hn F L X Y N PX PY N2 PX2 PY2 more A n cap rows A2 n2 cap2 rows2 m w hm hcap hcm hs hr hcap2 hcm2 hs2 hr2
    (fitsB Wn Hn F L X Y N PX PY (wdOf rows) rows.length) (fitsB Wn Hn F (L + more) X Y N PX PY (wdOf rows) rows.length)
    (meetV (shS Wn Hn F L X Y N PX PY rows) (shS Wn Hn F L X Y N2 PX2 PY2 rows2)) (meetV (shS Wn Hn F (L + more) X Y N PX PY rows) (shS Wn Hn F (L + more) X Y N2 PX2 PY2 rows2))
    (rowsOf (shS Wn Hn F L X Y N PX PY rows) Wn Hn) (rowsOf (shS Wn Hn F (L + more) X Y N PX PY rows) Wn Hn) (Wn * Hn)
    hsh hsh2 hst hfg hpl hfg2 hpl2 hm0 hm3 a7 a8 a5 a6 (by omega) (by omega) hP
    (Lib.hid (by rw [hv]; rfl)) (Lib.hid (by rw [hv']; rfl)) (Lib.hid (by rw [shadowRows, if_pos hv]; rfl)) (Lib.hid (by rw [shadowRows, if_pos hv']; rfl))
    (by rw [rowsOf_len]; omega) (by rw [rowsOf_len]; omega) (fun r hr => ?_) (fun r hr => ?_) (Lib.hid hwa) (Lib.hid hwb)
    (Lib.hid (by unfold fitsR; rw [if_pos hv])) (Lib.hid (by unfold fitsR; rw [if_pos hv']))
    (Lib.hid (by unfold meetsR; rw [hv, hv2]; rfl)) (Lib.hid (by unfold meetsR; rw [hv', hv2']; rfl))
    (Lib.hid (fitsB_flame b1 (by omega))) (Lib.hid (meetV_flame (by omega) b1 (by omega) b3 a7 (by omega) hw hw2)) (Lib.hid (by push_cast; rfl)) (Lib.hid fun k hk => ?_)
  · obtain ⟨i, hi, rfl⟩ := rowsOf_mem hr
    rw [cut_size hsza hi]; omega
  · obtain ⟨i, hi, rfl⟩ := rowsOf_mem hr
    rw [cut_size hszb hi]; omega
  · obtain ⟨rA, e1, e2, e3⟩ := sh_cells (Wn := Wn) (Hn := Hn) (F := F) (L := L) (X := X) (Y := Y) (N := N) (PX := PX) (PY := PY) (rows := rows) (by omega) (by omega) k hk
    obtain ⟨rB, e4, e5, e6⟩ := sh_cells (Wn := Wn) (Hn := Hn) (F := F) (L := L + more) (X := X) (Y := Y) (N := N) (PX := PX) (PY := PY) (rows := rows) (by omega) (by omega) k hk
    exact ⟨rA, rB, _, _, e1, e2, e3, e4, e5, e6, cell_flame (by omega) b1 a7 (by omega) hw⟩
end Go.Proofs.YtifddfchpknkbaaGreatDoor
