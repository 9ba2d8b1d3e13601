import Derived.Test.YtifddfchpknkbaaGreatDoorHx
import Derived.Test.YtifddfchpknkbaaGreatDoorKn
import Derived.Test.YtifddfchpknkbaaGreatDoorFm
set_option linter.unusedVariables false
set_option linter.unusedSimpArgs false
namespace Go.Proofs.YtifddfchpknkbaaGreatDoor
open Go.RowKit

theorem countR_rows {s : ByteArray} {W q : Nat} {c : Int} (hs : s.size = W * q) : countR (rowsOf s W q) c = cntL (ltr s) [c] := by
  have key : ∀ k, k ≤ q → countR (rowsOf s W k) c = cntL ((ltr s).take (k * W)) [c] := by
    intro k
    induction k with
    | zero => intro _; simp [rowsOf, countR, cntL]
    | succ k ih =>
      intro hk
      rw [rowsOf_succ]
      have e : countR (rowsOf s W k ++ [s.extract (k * W) (k * W + W)]) c = countR (rowsOf s W k) c + cntL (ltr (s.extract (k * W) (k * W + W))) [c] := by
        unfold countR; rw [List.map_append, List.sum_append]; simp
      rw [e, ih (by omega), ltr_extract, show k * W + W - k * W = W by omega, Nat.add_mul, Nat.one_mul, List.take_add]
      unfold cntL
      rw [List.filter_append, List.length_append]
  rw [key q (Nat.le_refl _), List.take_of_length_le (by rw [ltr_len, hs, Nat.mul_comm]; exact Nat.le_refl _)]
theorem shadows_law (W H F L X Y N PX PY : Int) (A : Option Addr) (n cap : Nat) (rows : List ByteArray) (m : Int) (w : World) (hm : w.cell? ⟨0, 0, none⟩ = some (.int .i64 m)) (hcap : n ≤ cap) (hcm : cap ≤ maxLen) (hs : ∀ r ∈ rows, r.size ≤ maxLen) (hr : Rd w w.heap.size 1 A n (rows.map Value.string)) :
    Calls Tryz.prog 3 #[.agg #[.int .i64 W, .int .i64 H, .int .i64 F, .int .i64 L, .int .i64 X, .int .i64 Y], .agg #[.slice A n cap], .agg #[.int .i64 N, .int .i64 PX, .int .i64 PY]] w fun e w' => e = .returned (.bool true) ∧ Below w.heap.size w w' := by
  cases hsh : shortB rows
  · exact shadows_x0 W H F L X Y N PX PY A n cap rows m w hm hcap hcm hs hr hsh
  cases hst : stageB W H F L X Y
  · have hv : viewB W H F L X Y N PX PY rows = false := by rw [viewB, hst]; rfl
    cases hfg : figB rows
    · exact shadows_x1 W H F L X Y N PX PY A n cap rows m w hm hcap hcm hs hr hsh hst hfg hv
    · exact shadows_x2 W H F L X Y N PX PY A n cap rows m w hm hcap hcm hs hr hsh hst hfg hv
  have ⟨⟨a1, a2⟩, ⟨a3, a4⟩, ⟨a5, a6⟩, ⟨a7, a8⟩, ⟨a9, a10⟩, a11, a12⟩ := stageB_nums hst
  cases hfg : figB rows
  · exact shadows_x3 W H F L X Y N PX PY A n cap rows m w hm hcap hcm hs hr hsh hst hfg (by rw [viewB, hst, hfg]; rfl)
  cases hpl : placeB F N PX PY
  · exact shadows_x4 W H F L X Y N PX PY A n cap rows m w hm hcap hcm hs hr hsh hst hfg a5 a6 hpl (by rw [viewB, hst, hfg, hpl]; rfl)
  have hv : viewB W H F L X Y N PX PY rows = true := by rw [viewB, hst, hfg, hpl]; rfl
  obtain ⟨Wn, rfl⟩ : ∃ k : Nat, W = k := ⟨W.toNat, by omega⟩
  obtain ⟨Hn, rfl⟩ : ∃ k : Nat, H = k := ⟨H.toNat, by omega⟩
  have hsza := shS_size Wn Hn F L X Y N PX PY rows
  simp only [Int.toNat_natCast] at hsza
  exact shadows_main Wn Hn F L X Y N PX PY A n cap rows m w hm hcap hcm hs hr (rowsOf (shS Wn Hn F L X Y N PX PY rows) Wn Hn) (cntL (ltr (shS Wn Hn F L X Y N PX PY rows)) [35]) (cntL (ltr (shS Wn Hn F L X Y N PX PY rows)) [43])
    hsh hst hfg a5 a6 hpl hv (Lib.hid (by rw [hv]; rfl)) (Lib.hid (by rw [shadowRows, if_pos hv]; rfl)) (Lib.hid rfl) (Lib.hid (by unfold countsR; rw [if_pos hv]))
    (Lib.hid (countR_rows hsza)) (Lib.hid (countR_rows hsza)) (by rw [rowsOf_len]; omega) (by omega)
    (fun s hs => by obtain ⟨i, hi, rfl⟩ := rowsOf_mem hs; rw [cut_size hsza hi]; omega)
end Go.Proofs.YtifddfchpknkbaaGreatDoor
