import Derived.Test.YtifddfchpknkbaaGreatDoorV3
import Derived.Test.YtifddfchpknkbaaGreatDoorPf
import Derived.Test.YtifddfchpknkbaaGreatDoorKn
set_option linter.unusedVariables false
set_option linter.unusedSimpArgs false
namespace Go.Proofs.YtifddfchpknkbaaGreatDoor
open Go.RowKit Go.Lib

def figL (f : Fig) : ByteArray := lineS wFigure f.rows
/-- The lines of a book ahead of its last one. -/
def linesL (ns : List Nat) (fs : List Fig) : List ByteArray := lineS wStage (ns.map dS) :: fs.map figL
def textS (L : List ByteArray) (s : Nat) : ByteArray := jnS L ⟨#[10]⟩ ++ ⟨#[10]⟩ ++ lineS wEnd [dgt3 (s % 173)] ++ ⟨#[10]⟩
theorem lineS_size (wd : ByteArray) (ws : List ByteArray) (M : Nat) (h : ∀ x ∈ ws, x.size ≤ M) : (lineS wd ws).size ≤ wd.size + 1 + ws.length * (M + 1) := by
  have h1 := jnS_size ws ⟨#[32]⟩ M h
  unfold lineS
  rw [size_app, size_app]
  have e : ByteArray.size ⟨#[32]⟩ = 1 := rfl
  rw [e] at h1 ⊢
  omega
set_option maxRecDepth 100000 in
set_option maxHeartbeats 3200000 in
theorem write_any (a0 a1 a2 a3 a4 a5 : Nat) (ha : ∀ a ∈ [a0, a1, a2, a3, a4, a5], a < 1000) (A : Option Addr) (n cap : Nat) (fs : List Fig) (s : Nat) (m : Int) (w : World) (hE : Env m w) (hn : n ≤ 100) (hf : ∀ f ∈ fs, f.ok w w.heap.size) (hfs : ∀ f ∈ fs, 1 ≤ f.rows.length ∧ f.rows.length ≤ 50 ∧ ∀ r ∈ f.rows, r.size ≤ 1000) (hr : Rd w w.heap.size 1 A n (fs.map Fig.val)) (hsum : sumA (linesL [a0, a1, a2, a3, a4, a5] fs) 0 0 = s) :
    Calls Tryz.prog 140 #[.agg #[.int .i64 a0, .int .i64 a1, .int .i64 a2, .int .i64 a3, .int .i64 a4, .int .i64 a5, .slice A n cap]] w fun e w' => e = .returned (.string (textS (linesL [a0, a1, a2, a3, a4, a5] fs) s)) ∧ Below w.heap.size w w' := by
  obtain ⟨i9, hi, hz0, hz1', hz2'⟩ := info_parts info9'
  have hlen := hr.len
  have hB := (Below.refl w.heap.size w).alloc (Nat.le_refl _) (.cells #[.int .i64 a0, .int .i64 a1, .int .i64 a2, .int .i64 a3, .int .i64 a4, .int .i64 a5, .slice A n cap] 121)
  have hS := Blk.new w 121 #[.int .i64 a0, .int .i64 a1, .int .i64 a2, .int .i64 a3, .int .i64 a4, .int .i64 a5, .slice A n cap]
  have hWS := fun wx hx => writeStage_any a0 a1 a2 a3 a4 a5 ha m wx hx
  obtain ⟨l0, hl0⟩ : ∃ l0, l0 = lineS wStage ([a0, a1, a2, a3, a4, a5].map dS) := ⟨_, rfl⟩
  have hl0s : l0.size ≤ 100000 := by
    rw [hl0]
    have h1 := lineS_size wStage ([a0, a1, a2, a3, a4, a5].map dS) 3 (fun x hx => by obtain ⟨a, ha', rfl⟩ := List.mem_map.1 hx; exact dS_size a (ha a ha'))
    exact Nat.le_trans h1 (show 5 + 1 + 6 * (3 + 1) ≤ 100000 by decide)
  have hfl : ∀ f ∈ fs, (figL f).size ≤ 100000 := fun f hf' => by
    obtain ⟨h1, h2, h3⟩ := hfs f hf'
    have h4 := lineS_size wFigure f.rows 1000 h3
    have h5 : wFigure.size = 6 := rfl
    have h6 : f.rows.length * (1000 + 1) ≤ 50 * 1001 := Nat.mul_le_mul h2 (Nat.le_refl _)
    unfold figL
    omega
  have hLL : linesL [a0, a1, a2, a3, a4, a5] fs = l0 :: fs.map figL := by rw [hl0]; rfl
  rw [hLL] at hsum ⊢
  rw [← hl0] at hWS
  have hall : ∀ x ∈ l0 :: fs.map figL, x.size ≤ 100000 := fun x hx => by
    rcases List.mem_cons.1 hx with rfl | hx
    · exact hl0s
    · obtain ⟨f, hf', rfl⟩ := List.mem_map.1 hx
      exact hfl f hf'
  have HWS := Lib.hid hWS; have HLEN := Lib.hid hlen; have HALL := Lib.hid hall; have HSUM := Lib.hid hsum
  clear hWS hlen hall hsum hLL hl0 hl0s hfl ha
  go_enter Tryz.func140, Tryz.ntmps140
  go_upto_region 1 with (fail)
  generalize w.alloc (.cells #[.int .i64 a0, .int .i64 a1, .int .i64 a2, .int .i64 a3, .int .i64 a4, .int .i64 a5, .slice A n cap] 121) = W0 at *
  have hE0 := hE.below hB
  have qS := fun i => Blk.cell hS i
  go_upto_region 2 with (go_at_call 171; refine (HWS.out _ hE0).mono ?_; rintro e w1 ⟨rfl, hb⟩; replace hS := hS.below hb hS.lt; replace hB := hB.trans (hb.mono hB.size); clear qS hb hE0)
  have hown := World.ownsRow_lit (base := w.heap.size) (e := 9) (size := 1) w1 #[.string l0] 1 hB.size (by unfold maxLen; omega) rfl
  replace hB := hB.alloc hB.size (.cells #[.string l0] 9)
  replace hS := hS.alloc (.cells #[.string l0] 9)
  obtain ⟨v1, hv1⟩ : ∃ v1 : Value, v1 = .slice (some ⟨w1.heap.size, 0, none⟩) 1 1 := ⟨_, rfl⟩
  rw [← hv1] at hown ⊢
  clear hv1
  generalize w1.alloc (.cells #[.string l0] 9) = W1 at *
  have qS := fun i => Blk.cell hS i
  go_wp2_with (fail)
  clear qS
  go_loopg [3, 15] n (fun g v i wr => ∃ (k : Nat) (v0 : Value), g = n - k ∧ k ≤ n ∧ v = v0 ∧ i = .int .i64 k ∧ wr.ownsRow w.heap.size 9 1 v0 (k + 1) ((l0 :: (fs.take k).map figL).map Value.string) ∧ Below w.heap.size w wr)
  case atStart => exact ⟨0, _, rfl, Nat.zero_le _, rfl, rfl, hown, hB⟩
  case round =>
    clear hown hB hS
    obtain ⟨k, v0, hg, hk, rfl, rfl, hown, hB⟩ := hrel
    obtain ⟨va, vc, rfl⟩ := own_slice hown
    have HG := Lib.hid hg; clear hg
    rename World => W2
    by_cases hlt : k < n
    · have hlti : (k : Int) < n := by omega
      have hzk : k < fs.length := by have := HLEN.out; omega
      obtain ⟨bF, oF, rfl, hbF, hcf⟩ := hr.2 (by omega)
      have cf : w.cell? ⟨bF, oF + k, none⟩ = some (Fig.val fs[k]) := hcf k (Fig.val fs[k]) (by simp [hzk])
      clear hcf
      have cf2 : W2.cell? ⟨bF, oF + k, none⟩ = some (Fig.val fs[k]) := (hB.cell (p := ⟨bF, oF + k, none⟩) hbF).trans cf
      have hfo := hf _ (List.getElem_mem hzk)
      have hft := hfs _ (List.getElem_mem hzk)
      have hts : (fs.take (k + 1)).map figL = (fs.take k).map figL ++ [figL fs[k]] := by rw [List.take_succ_eq_append_getElem hzk, List.map_append]; rfl
      have hfL : figL fs[k] = lineS wFigure fs[k].rows := rfl
      generalize fs[k] = fg at *
      obtain ⟨fA, fn, fcap, rows⟩ := fg
      obtain ⟨hf1, hf2, hf3, hfr⟩ := hfo
      dsimp only at hf1 hf2 hf3 hfr hft hfL
      simp only [Fig.val] at cf2
      obtain ⟨ht1, ht2, ht3⟩ := hft
      have hfn := hfr.len
      have hwf := fun wx hx => writeFigure_any fA fn fcap rows wx (by omega) (by omega) ht3 hx
      rw [← hfL] at hwf
      generalize figL ⟨fA, fn, fcap, rows⟩ = fl at *
      obtain ⟨ys, hys⟩ : ∃ ys, ys = (l0 :: (fs.take k).map figL).map Value.string := ⟨_, rfl⟩
      rw [← hys] at hown
      have HTS := Lib.hid hts; have HYS := Lib.hid hys; have HWF := Lib.hid hwf; clear hts hys hwf cf ht1 ht2 ht3 hf3 hfL hfn
      go_wp2_with (first
        | (go_at_call 171; (have hbA := hB.alloc hB.size (.cells #[.slice fA fn fcap] 26)); refine (HWF.out _ ((hfr.below hbA).more hbA.size)).mono ?_; rintro e w3 ⟨rfl, hb⟩; replace hown := ownsRow_below' (hown.alloc (.cells #[.slice fA fn fcap] 26)) hb; replace hB := hbA.trans (hb.mono hbA.size); clear hb hbA)
        | (at_builtin; refine wpList_append_any _ rfl _ _ 24 rfl w.heap.size 9 i9 (.string ByteArray.empty) 1 16 Tryz.underlying24 hi hz0 hz1' hz2' rfl (by decide) (.slice va (k + 1) vc) (k + 1) ys rfl (hown.alloc _) (w3.heap.size + 1) (some ⟨w3.heap.size, 0, none⟩) 1 1 [.string fl] rfl (Rd.blkN (Blk.new w3 9 #[.string fl]) rfl (Nat.lt_succ_self _)).reads (by simp [Value.oneCell']) (by unfold maxLen; omega) (by omega) (by have := hB.size; simp only [World.size_alloc]; omega) (fun v' w' hown' hgrow hob => ?_))
        | go_in)
      have hB2 := (hB.alloc hB.size (.cells #[.string fl] 9)).grown hgrow (by have := hB.size; simp only [World.size_alloc]; omega) (fun g hg => ((hown.alloc (.cells #[.string fl] 9)).lt g hg).1)
      go_roundg (n - (k + 1))
      case measure => rw [HG.out]; omega
      case rel => exact ⟨k + 1, _, rfl, by omega, rfl, by go_num, by rw [HTS.out, ← List.cons_append, List.map_append, ← HYS.out]; exact hown', hB2⟩
    · obtain rfl : k = n := by omega
      have htk : fs.take k = fs := List.take_of_length_le (by have := HLEN.out; omega)
      rw [htk] at hown
      clear htk
      obtain ⟨L, hL⟩ : ∃ L, L = l0 :: fs.map figL := ⟨_, rfl⟩
      have hall := HALL.out; have hsum := HSUM.out
      rw [← hL] at hown hall hsum
      have hrL := Rd.of_own hown
      have hcL := own_le0 hown
      have hj : (jnS L ⟨#[10]⟩).size ≤ 20000000 := by
        have h1 := jnS_size L ⟨#[10]⟩ 100000 hall
        have h2 : L.length = k + 1 := by rw [hL, List.length_cons, List.length_map, HLEN.out]
        have h3 : L.length * (100000 + ByteArray.size ⟨#[10]⟩) ≤ 101 * 100001 := Nat.mul_le_mul (by omega) (Nat.le_refl _)
        omega
      have he : (lineS wEnd [dgt3 (s % 173)]).size ≤ 100 := Nat.le_trans (lineS_size wEnd [dgt3 (s % 173)] 3 (fun x hx => by obtain rfl : x = dgt3 (s % 173) := (by simpa using hx); exact Nat.le_refl 3)) (show 3 + 1 + 1 * (3 + 1) ≤ 100 by decide)
      have HT := Lib.hid (show textS (l0 :: fs.map figL) s = jnS L ⟨#[10]⟩ ++ ⟨#[10]⟩ ++ lineS wEnd [dgt3 (s % 173)] ++ ⟨#[10]⟩ by rw [hL]; rfl)
      have hjoin := fun wx hx => jn_any va (k + 1) vc L ⟨#[10]⟩ wx (by omega) (by omega) hcL hall (by decide) hx
      have hend := fun wx hx hy => endOf_any va (k + 1) vc L s m wx (by omega) hall hx hsum hy
      have HE := Lib.hid hend; have HJ := Lib.hid hjoin; clear hend hjoin hall hsum hL
      have hEn := hE.below hB
      generalize lineS wEnd [dgt3 (s % 173)] = EE at *
      generalize jnS L ⟨#[10]⟩ = JJ at *
      have hno1 : ¬ 9223372036854775807 < JJ.size + 1 := by omega
      have hno2 : ¬ 9223372036854775807 < JJ.size + 1 + EE.size := by omega
      have hno3 : ¬ 9223372036854775807 < JJ.size + 1 + EE.size + 1 := by omega
      have hdn := Lib.hid (rfl : (0 : Nat) = 0)
      go_wp2_with (first
        | (go_at_call 161; refine (HJ.out _ hrL).mono ?_; rintro e w3 ⟨rfl, hb⟩; replace hrL := rdB hrL hb; replace hEn := hEn.below (hb.mono (Nat.le_refl _)); replace hB := hB.trans (hb.mono hB.size); clear hb)
        | (go_at_call 172; refine (HE.out _ hrL hEn).mono ?_; rintro e w4 ⟨rfl, hb⟩; replace hB := hB.trans (hb.mono hB.size); clear hb))
      go_ret
      exact ⟨by rw [HT.out]; rfl, hB⟩
end Go.Proofs.YtifddfchpknkbaaGreatDoor
