import Derived.Test.YtifddfchpknkbaaGreatDoorFo
import Derived.Test.YtifddfchpknkbaaGreatDoorFp
import Derived.Test.YtifddfchpknkbaaGreatDoorFq
import Derived.Test.YtifddfchpknkbaaGreatDoorFr
set_option linter.unusedVariables false
set_option linter.unusedSimpArgs false
namespace Go.Proofs.YtifddfchpknkbaaGreatDoor
open Go.RowKit

theorem flames_out (W H F L X Y N PX PY N2 PX2 PY2 more : Int) (A : Option Addr) (n cap : Nat) (rows : List ByteArray) (A2 : Option Addr) (n2 cap2 : Nat) (rows2 : List ByteArray) (m : Int) (w : World) (hm : w.cell? ⟨0, 0, none⟩ = some (.int .i64 m)) (hcap : n ≤ cap) (hcm : cap ≤ maxLen) (hs : ∀ r ∈ rows, r.size ≤ maxLen) (hr : Rd w w.heap.size 1 A n (rows.map Value.string)) (hcap2 : n2 ≤ cap2) (hcm2 : cap2 ≤ maxLen) (hs2 : ∀ r ∈ rows2, r.size ≤ maxLen) (hr2 : Rd w w.heap.size 1 A2 n2 (rows2.map Value.string))
    (hout : (shortB rows && shortB rows2 && stageB W H F L X Y && figB rows && placeB F N PX PY && figB rows2 && placeB F N2 PX2 PY2 && (decide (0 ≤ more) && decide (more ≤ 3 - L))) = false) :
    Calls Tryz.prog 18 #[.agg #[.int .i64 W, .int .i64 H, .int .i64 F, .int .i64 L, .int .i64 X, .int .i64 Y], .agg #[.slice A n cap], .agg #[.int .i64 N, .int .i64 PX, .int .i64 PY], .agg #[.slice A2 n2 cap2], .agg #[.int .i64 N2, .int .i64 PX2, .int .i64 PY2], .int .i64 more] w fun e w' => e = .returned (.bool true) ∧ Below w.heap.size w w' := by
  cases hsh : shortB rows
  · exact flames_x1 W H F L X Y N PX PY N2 PX2 PY2 more A n cap rows A2 n2 cap2 rows2 m w hm hcap hcm hs hr hcap2 hcm2 hs2 hr2 hsh
  cases hsh2 : shortB rows2
  · exact flames_x2 W H F L X Y N PX PY N2 PX2 PY2 more A n cap rows A2 n2 cap2 rows2 m w hm hcap hcm hs hr hcap2 hcm2 hs2 hr2 hsh hsh2
  cases hst : stageB W H F L X Y
  · exact flames_x3 W H F L X Y N PX PY N2 PX2 PY2 more A n cap rows A2 n2 cap2 rows2 m w hm hcap hcm hs hr hcap2 hcm2 hs2 hr2 hsh hsh2 hst
  obtain ⟨⟨a1, a2⟩, ⟨a3, a4⟩, ⟨a5, a6⟩, ⟨a7, a8⟩, ⟨a9, a10⟩, a11, a12⟩ := stageB_nums hst
  cases hfg : figB rows
  · exact flames_x4 W H F L X Y N PX PY N2 PX2 PY2 more A n cap rows A2 n2 cap2 rows2 m w hm hcap hcm hs hr hcap2 hcm2 hs2 hr2 hsh hsh2 hst hfg
  cases hpl : placeB F N PX PY
  · exact flames_x5 W H F L X Y N PX PY N2 PX2 PY2 more A n cap rows A2 n2 cap2 rows2 m w hm hcap hcm hs hr hcap2 hcm2 hs2 hr2 hsh hsh2 hst hfg hpl a5 a6
  cases hfg2 : figB rows2
  · exact flames_x6 W H F L X Y N PX PY N2 PX2 PY2 more A n cap rows A2 n2 cap2 rows2 m w hm hcap hcm hs hr hcap2 hcm2 hs2 hr2 hsh hsh2 hst hfg hpl hfg2 a5 a6
  cases hpl2 : placeB F N2 PX2 PY2
  · exact flames_x7 W H F L X Y N PX PY N2 PX2 PY2 more A n cap rows A2 n2 cap2 rows2 m w hm hcap hcm hs hr hcap2 hcm2 hs2 hr2 hsh hsh2 hst hfg hpl hfg2 hpl2 a5 a6
  by_cases hm0 : more < 0
  · exact flames_x8 W H F L X Y N PX PY N2 PX2 PY2 more A n cap rows A2 n2 cap2 rows2 m w hm hcap hcm hs hr hcap2 hcm2 hs2 hr2 hsh hsh2 hst hfg hpl hfg2 hpl2 hm0 a5 a6
  · refine flames_x9 W H F L X Y N PX PY N2 PX2 PY2 more A n cap rows A2 n2 cap2 rows2 m w hm hcap hcm hs hr hcap2 hcm2 hs2 hr2 hsh hsh2 hst hfg hpl hfg2 hpl2 hm0 a7 a8 ?_ a5 a6
    rw [hsh, hsh2, hst, hfg, hpl, hfg2, hpl2] at hout
    simp at hout
    omega
end Go.Proofs.YtifddfchpknkbaaGreatDoor
