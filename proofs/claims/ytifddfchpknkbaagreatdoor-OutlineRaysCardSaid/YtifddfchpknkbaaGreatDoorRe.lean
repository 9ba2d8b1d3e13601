import Derived.Test.YtifddfchpknkbaaGreatDoorRc
import Derived.Test.YtifddfchpknkbaaGreatDoorRd
set_option linter.unusedVariables false
set_option linter.unusedSimpArgs false
namespace Go.Proofs.YtifddfchpknkbaaGreatDoor
open Go.RowKit

theorem rays_out (W H F L X Y N PX PY c r u v a b : Int) (A : Option Addr) (n cap : Nat) (rows : List ByteArray) (m : Int) (w : World) (hm : w.cell? ⟨0, 0, none⟩ = some (.int .i64 m)) (hcap : n ≤ cap) (hcm : cap ≤ maxLen) (hs : ∀ r ∈ rows, r.size ≤ maxLen) (hr : Rd w w.heap.size 1 A n (rows.map Value.string))
    (main : ∀ (hsh : shortB rows = true) (hst : stageB W H F L X Y = true) (hfg : figB rows = true) (hpl : placeB F N PX PY = true) (_ : ¬ c < 0) (_ : ¬ W ≤ c) (_ : ¬ r < 0) (_ : ¬ H ≤ r) (_ : ¬ u < 1) (_ : ¬ 59 < u) (_ : ¬ v < 1) (_ : ¬ 59 < v) (_ : ¬ a < -60 * L) (_ : ¬ 60 * L < a) (_ : ¬ b < -60 * L) (_ : ¬ 60 * L < b), Calls Tryz.prog 4 #[.agg #[.int .i64 W, .int .i64 H, .int .i64 F, .int .i64 L, .int .i64 X, .int .i64 Y], .agg #[.slice A n cap], .agg #[.int .i64 N, .int .i64 PX, .int .i64 PY], .int .i64 c, .int .i64 r, .int .i64 u, .int .i64 v, .int .i64 a, .int .i64 b] w fun e w' => e = .returned (.bool true) ∧ Below w.heap.size w w') :
    Calls Tryz.prog 4 #[.agg #[.int .i64 W, .int .i64 H, .int .i64 F, .int .i64 L, .int .i64 X, .int .i64 Y], .agg #[.slice A n cap], .agg #[.int .i64 N, .int .i64 PX, .int .i64 PY], .int .i64 c, .int .i64 r, .int .i64 u, .int .i64 v, .int .i64 a, .int .i64 b] w fun e w' => e = .returned (.bool true) ∧ Below w.heap.size w w' := by
  cases hsh : shortB rows
  · exact rays_x1 W H F L X Y N PX PY c r u v a b A n cap rows m w hm hcap hcm hs hr hsh
  cases hst : stageB W H F L X Y
  · exact rays_x2 W H F L X Y N PX PY c r u v a b A n cap rows m w hm hcap hcm hs hr hsh hst
  have ⟨⟨a1, a2⟩, ⟨a3, a4⟩, ⟨a5, a6⟩, ⟨a7, a8⟩, ⟨a9, a10⟩, a11, a12⟩ := stageB_nums hst
  cases hfg : figB rows
  · exact rays_x3 W H F L X Y N PX PY c r u v a b A n cap rows m w hm hcap hcm hs hr hsh hst hfg
  cases hpl : placeB F N PX PY
  · exact rays_x4 W H F L X Y N PX PY c r u v a b A n cap rows m w hm hcap hcm hs hr hsh hst hfg hpl a5 a6
  by_cases h5 : c < 0
  · exact rays_x5 W H F L X Y N PX PY c r u v a b A n cap rows m w hm hcap hcm hs hr hsh hst hfg hpl h5 a5 a6
  by_cases h6 : W ≤ c
  · exact rays_x6 W H F L X Y N PX PY c r u v a b A n cap rows m w hm hcap hcm hs hr hsh hst hfg hpl h5 h6 a5 a6
  by_cases h7 : r < 0
  · exact rays_x7 W H F L X Y N PX PY c r u v a b A n cap rows m w hm hcap hcm hs hr hsh hst hfg hpl h5 h6 h7 a5 a6
  by_cases h8 : H ≤ r
  · exact rays_x8 W H F L X Y N PX PY c r u v a b A n cap rows m w hm hcap hcm hs hr hsh hst hfg hpl h5 h6 h7 h8 a5 a6
  by_cases h9 : u < 1
  · exact rays_x9 W H F L X Y N PX PY c r u v a b A n cap rows m w hm hcap hcm hs hr hsh hst hfg hpl h5 h6 h7 h8 h9 a5 a6
  by_cases h10 : 59 < u
  · exact rays_x10 W H F L X Y N PX PY c r u v a b A n cap rows m w hm hcap hcm hs hr hsh hst hfg hpl h5 h6 h7 h8 h9 h10 a5 a6
  by_cases h11 : v < 1
  · exact rays_x11 W H F L X Y N PX PY c r u v a b A n cap rows m w hm hcap hcm hs hr hsh hst hfg hpl h5 h6 h7 h8 h9 h10 h11 a5 a6
  by_cases h12 : 59 < v
  · exact rays_x12 W H F L X Y N PX PY c r u v a b A n cap rows m w hm hcap hcm hs hr hsh hst hfg hpl h5 h6 h7 h8 h9 h10 h11 h12 a5 a6
  by_cases h13 : a < -60 * L
  · exact rays_x13 W H F L X Y N PX PY c r u v a b A n cap rows m w hm hcap hcm hs hr hsh hst hfg hpl h5 h6 h7 h8 h9 h10 h11 h12 h13 a5 a6 a7 a8
  by_cases h14 : 60 * L < a
  · exact rays_x14 W H F L X Y N PX PY c r u v a b A n cap rows m w hm hcap hcm hs hr hsh hst hfg hpl h5 h6 h7 h8 h9 h10 h11 h12 h13 h14 a5 a6 a7 a8
  by_cases h15 : b < -60 * L
  · exact rays_x15 W H F L X Y N PX PY c r u v a b A n cap rows m w hm hcap hcm hs hr hsh hst hfg hpl h5 h6 h7 h8 h9 h10 h11 h12 h13 h14 h15 a5 a6 a7 a8
  by_cases h16 : 60 * L < b
  · exact rays_x16 W H F L X Y N PX PY c r u v a b A n cap rows m w hm hcap hcm hs hr hsh hst hfg hpl h5 h6 h7 h8 h9 h10 h11 h12 h13 h14 h15 h16 a5 a6 a7 a8
  exact main hsh hst hfg hpl h5 h6 h7 h8 h9 h10 h11 h12 h13 h14 h15 h16
end Go.Proofs.YtifddfchpknkbaaGreatDoor
