import Derived.Test.YtifddfchpknkbaaGreatDoorEe
import Derived.Test.YtifddfchpknkbaaGreatDoorZ
import Derived.Test.YtifddfchpknkbaaGreatDoorFm
set_option linter.unusedVariables false
set_option linter.unusedSimpArgs false
namespace Go.Proofs.YtifddfchpknkbaaGreatDoor
open Go.RowKit

theorem shL_len (Wn Hn F L X Y nl nh xl xh y : Int) (fs : List Fig) : (shL Wn Hn F L X Y nl nh xl xh y fs).length = (allR fs.length nl nh xl xh).length := by rw [shL, List.length_map]
theorem fiT_fL (Wn Hn F L X Y nl nh xl xh y : Int) (fs : List Fig) (i : Nat) (h : i < (allR fs.length nl nh xl xh).length) : fiT (allR fs.length nl nh xl xh) i = fL (shL Wn Hn F L X Y nl nh xl xh y fs) i := by
  rw [fiT_at h, fL_at (by rw [shL_len]; exact h)]
  simp [shL, shOf]
theorem chr_ltAt (s : ByteArray) (c : Nat) : chr s c = ltAt s c := rfl
/-- The cells tell the company. -/
def telP (sl : List Sh) (l : List Nat) : Bool := telA (fL sl) (zL sl) l sl.length
theorem telP_eq (Wn Hn F L X Y nl nh xl xh y : Int) (fs : List Fig) (l : List Nat) : telA (fiT (allR fs.length nl nh xl xh)) (zL (shL Wn Hn F L X Y nl nh xl xh y fs)) l (allR fs.length nl nh xl xh).length = telP (shL Wn Hn F L X Y nl nh xl xh y fs) l := by
  rw [telP, shL_len]
  exact telA_congr (fun i hi => fiT_fL Wn Hn F L X Y nl nh xl xh y fs i hi) (fun _ _ _ _ => rfl)

theorem sameL_me (xs : List Int) : sameL xs xs = true := by
  unfold sameL
  rw [decide_eq_true rfl, Bool.true_and, List.all_eq_true]
  intro p hp
  have : p.1 = p.2 := by
    obtain ⟨i, hi, rfl⟩ := List.getElem_of_mem hp
    rw [List.getElem_zip]
  simp [sameP, this]
theorem diffAll_len (cs : List Nat) (cn : Nat) : ∀ l : List Sh, (diffAll cs cn l).length ≤ l.length * l.length
  | [] => by simp [diffAll]
  | a :: rest => by
    rw [diffAll, List.length_append, List.length_cons]
    have h1 := diffRow_len cs cn a rest
    have h2 := diffAll_len cs cn rest
    have h3 : (rest.length + 1) * (rest.length + 1) = rest.length * rest.length + rest.length + rest.length + 1 := by rw [Nat.add_mul, Nat.mul_add]; omega
    omega
theorem dif_small (W H F L X Y nl nh xl xh y : Int) (fs : List Fig) (cs : List Int) (h : goodP W H F L X Y nl nh xl xh y fs cs = true) : (difP W H F L X Y nl nh xl xh y fs cs).length ≤ 100000 := by
  simp only [goodP, Bool.and_eq_true] at h
  have h1 := allR_small h.1
  have h2 := diffAll_len (cs.map Int.toNat) cs.length (shL W H F L X Y nl nh xl xh y fs)
  rw [shL_len] at h2
  have h3 : (allR fs.length nl nh xl xh).length * (allR fs.length nl nh xl xh).length ≤ 216 * 216 := Nat.mul_le_mul h1 h1
  unfold difP
  omega
theorem askV_two {b : Bool} : (askV (b && true) = 0 ∧ b = true) ∨ (askV (b && true) = 2 ∧ b = false) := by cases b <;> simp [askV]
theorem cells_nat {W H : Int} {cs : List Int} (hcel : cellsB W H cs = true) (w1 : 1 ≤ W) (h1 : 1 ≤ H) : (∀ c ∈ cs.map Int.toNat, c < W.toNat * H.toNat) ∧ cs.map (Value.int .i64) = (cs.map Int.toNat).map natV ∧ cs.length ≤ 8 := by
  simp only [cellsB, Bool.and_eq_true, decide_eq_true_eq] at hcel
  have hcm := cellsF_mem (-1) (W * H) cs (by omega) hcel.2
  have hWH : W * H = ((W.toNat * H.toNat : Nat) : Int) := by rw [Int.natCast_mul, Int.toNat_of_nonneg (by omega), Int.toNat_of_nonneg (by omega)]
  refine ⟨fun c hc => ?_, ?_, hcel.1⟩
  · obtain ⟨d, hd, rfl⟩ := List.mem_map.1 hc
    have := hcm d hd
    rw [hWH] at this
    omega
  · rw [List.map_map]
    refine List.map_congr_left fun c hc => ?_
    have := hcm c hc
    simp only [Function.comp, natV]
    rw [Int.toNat_of_nonneg this.1]
end Go.Proofs.YtifddfchpknkbaaGreatDoor
