import Derived.Test.YtifddfchpknkbaaGreatDoorNf
import Derived.Test.YtifddfchpknkbaaGreatDoorNg
import Derived.Test.YtifddfchpknkbaaGreatDoorNh
import Derived.Test.YtifddfchpknkbaaGreatDoorNi
import Derived.Test.YtifddfchpknkbaaGreatDoorNj
import Derived.Test.YtifddfchpknkbaaGreatDoorNl
set_option linter.unusedVariables false
set_option linter.unusedSimpArgs false
namespace Go.Proofs.YtifddfchpknkbaaGreatDoor
open Go.RowKit

theorem near_law (W H F L X Y N PX PY : Int) (A : Option Addr) (n cap : Nat) (rows : List ByteArray) (m : Int) (w : World) (hm : w.cell? ⟨0, 0, none⟩ = some (.int .i64 m)) (hcap : n ≤ cap) (hcm : cap ≤ maxLen) (hs : ∀ r ∈ rows, r.size ≤ maxLen) (hr : Rd w w.heap.size 1 A n (rows.map Value.string)) :
    Calls Tryz.prog 9 #[.agg #[.int .i64 W, .int .i64 H, .int .i64 F, .int .i64 L, .int .i64 X, .int .i64 Y], .agg #[.slice A n cap], .agg #[.int .i64 N, .int .i64 PX, .int .i64 PY]] w fun e w' => e = .returned (.bool true) ∧ Below w.heap.size w w' := by
  cases hin : (shortB rows && stageB W H F L X Y && figB rows && placeB F N PX PY)
  · exact near_out W H F L X Y N PX PY A n cap rows m w hm hcap hcm hs hr hin
  simp only [Bool.and_eq_true] at hin
  obtain ⟨⟨⟨hsh, hst⟩, hfg⟩, hpl⟩ := hin
  have ⟨⟨a1, a2⟩, ⟨a3, a4⟩, ⟨a5, a6⟩, ⟨a7, a8⟩, ⟨a9, a10⟩, a11, a12⟩ := stageB_nums hst
  have hv : viewB W H F L X Y N PX PY rows = true := by rw [viewB, hst, hfg, hpl]; rfl
  obtain ⟨⟨b1, b2⟩, _⟩ := placeB_nums hpl
  obtain ⟨hcm1, hcm2⟩ := near_cases hv
  have hfi : fitsR W H F L X Y N PX PY rows = #[.bool (fitsB W H F L X Y N PX PY (wdOf rows) rows.length), .int .i64 0] := by unfold fitsR; rw [if_pos hv]
  have hco : countsR W H F L X Y N PX PY rows = #[.int .i64 (cntL (ltr (shS W H F L X Y N PX PY rows)) [35]), .int .i64 (cntL (ltr (shS W H F L X Y N PX PY rows)) [43]), .int .i64 0] := by unfold countsR; rw [if_pos hv]
  have hso := some_of_fit hv
  have hc35 := cnt_le (F := F) (L := L) (X := X) (Y := Y) (N := N) (PX := PX) (PY := PY) (rows := rows) 35 a1 a3
  have hc43 := cnt_le (F := F) (L := L) (X := X) (Y := Y) (N := N) (PX := PX) (PY := PY) (rows := rows) 43 a1 a3
  have hwh : W * H ≤ 256 := by
    have h1 := Int.mul_le_mul_of_nonneg_right (show W ≤ 16 by omega) (show 0 ≤ H by omega)
    omega
  generalize cntL (ltr (shS W H F L X Y N PX PY rows)) [35] = c35 at *
  generalize cntL (ltr (shS W H F L X Y N PX PY rows)) [43] = c43 at *
  generalize fitsB W H F L X Y N PX PY (wdOf rows) rows.length = fb at *
  have f1 : ¬ (c35 : Int) < 0 := by omega
  have f2 : ¬ (c43 : Int) < 0 := by omega
  have f3 : ¬ W * H < (c35 : Int) := by omega
  have f4 : ¬ W * H < (c43 : Int) := by omega
  have hz0 : ¬ (0 : Int) < 0 := by omega
  have f7 : ¬ F ≤ 0 := by omega
  rcases hcm1 with ⟨e1, q1⟩ | ⟨k, k1, e1, ⟨q1, q2⟩ | ⟨q1, q2⟩⟩
  · rcases hcm2 with ⟨e2, r1⟩ | ⟨i, i1, e2, ⟨r1, r2⟩ | ⟨r1, r2⟩ | r1⟩
    · exact near_11 W H F L X Y N PX PY A n cap rows m w hm hcap hcm hs hr 0 0 c35 c43 fb hsh hst hfg hpl hfi hco e1 e2 f1 f2 f3 f4 hwh (by omega) (by omega) (by omega) (by omega) q1 (by omega)
    · exact near_12 W H F L X Y N PX PY A n cap rows m w hm hcap hcm hs hr 0 i c35 c43 fb hsh hst hfg hpl hfi hco e1 e2 f1 f2 f3 f4 hwh (by omega) (by omega) (by omega) (by omega) q1 r1 (by omega)
    · exact near_13 W H F L X Y N PX PY A n cap rows m w hm hcap hcm hs hr 0 i c35 c43 fb hsh hst hfg hpl hfi hco e1 e2 f1 f2 f3 f4 hwh (by omega) (by omega) (by omega) (by omega) q1 r1 r2
    · exact near_14 W H F L X Y N PX PY A n cap rows m w hm hcap hcm hs hr 0 i c35 c43 fb hsh hst hfg hpl hfi hco e1 e2 f1 f2 f3 f4 hwh (by omega) (by omega) (by omega) (by omega) q1 r1
  · rcases hcm2 with ⟨e2, r1⟩ | ⟨i, i1, e2, ⟨r1, r2⟩ | ⟨r1, r2⟩ | r1⟩
    · exact near_21 W H F L X Y N PX PY A n cap rows m w hm hcap hcm hs hr k 0 c35 c43 fb hsh hst hfg hpl hfi hco e1 e2 f1 f2 f3 f4 hwh (by omega) (by omega) (by omega) (by omega) q2 (by omega) (by have := hso q2; omega) (by omega)
    · exact near_22 W H F L X Y N PX PY A n cap rows m w hm hcap hcm hs hr k i c35 c43 fb hsh hst hfg hpl hfi hco e1 e2 f1 f2 f3 f4 hwh (by omega) (by omega) (by omega) (by omega) q2 (by omega) (by have := hso q2; omega) r1 (by omega)
    · exact near_23 W H F L X Y N PX PY A n cap rows m w hm hcap hcm hs hr k i c35 c43 fb hsh hst hfg hpl hfi hco e1 e2 f1 f2 f3 f4 hwh (by omega) (by omega) (by omega) (by omega) q2 (by omega) (by have := hso q2; omega) r1 r2
    · exact near_24 W H F L X Y N PX PY A n cap rows m w hm hcap hcm hs hr k i c35 c43 fb hsh hst hfg hpl hfi hco e1 e2 f1 f2 f3 f4 hwh (by omega) (by omega) (by omega) (by omega) q2 (by omega) (by have := hso q2; omega) r1
  · rcases hcm2 with ⟨e2, r1⟩ | ⟨i, i1, e2, ⟨r1, r2⟩ | ⟨r1, r2⟩ | r1⟩
    · exact near_31 W H F L X Y N PX PY A n cap rows m w hm hcap hcm hs hr k 0 c35 c43 fb hsh hst hfg hpl hfi hco e1 e2 f1 f2 f3 f4 hwh (by omega) (by omega) (by omega) (by omega) q2 (by omega) (by omega)
    · exact near_32 W H F L X Y N PX PY A n cap rows m w hm hcap hcm hs hr k i c35 c43 fb hsh hst hfg hpl hfi hco e1 e2 f1 f2 f3 f4 hwh (by omega) (by omega) (by omega) (by omega) q2 (by omega) r1 (by omega)
    · exact near_33 W H F L X Y N PX PY A n cap rows m w hm hcap hcm hs hr k i c35 c43 fb hsh hst hfg hpl hfi hco e1 e2 f1 f2 f3 f4 hwh (by omega) (by omega) (by omega) (by omega) q2 (by omega) r1 r2
    · exact near_34 W H F L X Y N PX PY A n cap rows m w hm hcap hcm hs hr k i c35 c43 fb hsh hst hfg hpl hfi hco e1 e2 f1 f2 f3 f4 hwh (by omega) (by omega) (by omega) (by omega) q2 (by omega) r1
end Go.Proofs.YtifddfchpknkbaaGreatDoor
