import Derived.Test.YtifddfchpknkbaaGreatDoorProg
import Derived.Test.YtifddfchpknkbaaGreatDoorBk5
import Derived.Test.YtifddfchpknkbaaGreatDoorBk6
import Derived.Test.YtifddfchpknkbaaGreatDoorBk8
import Derived.Test.YtifddfchpknkbaaGreatDoorBk12
import Derived.Test.YtifddfchpknkbaaGreatDoorBk13
import Derived.Test.YtifddfchpknkbaaGreatDoorBk14
import Derived.Test.YtifddfchpknkbaaGreatDoorBk15
set_option linter.unusedVariables false
set_option linter.unusedSimpArgs false
namespace Go.Proofs.YtifddfchpknkbaaGreatDoor
section
open Go.RowKit Go.Lib
/-- A line of a text is cut into its words. -/
def LineOk (wd : ByteArray) (ws : List ByteArray) : Prop := (lineS wd ws).size ≤ 1000 ∧ 1 ≤ ws.length ∧ ws.length ≤ 1000 ∧ countB (lineS wd ws) ⟨#[32]⟩ = ws.length ∧ splitB ⟨#[32]⟩ 0 ws.length (lineS wd ws) = wd :: ws ∧ containsS (wd :: ws) ⟨#[]⟩ = false
theorem words_ok (k : Int) (wd : ByteArray) (ws : List ByteArray) (m : Int) (w : World) (hkw : ∀ w : World, Calls Tryz.prog 196 #[.int .i64 k] w fun e w' => e = .returned (.string wd) ∧ w = w') (h : LineOk wd ws) (hm : w.cell? ⟨0, 0, none⟩ = some (.int .i64 m)) :
    Calls Tryz.prog 177 #[.int .i64 k, .string (lineS wd ws)] w fun e w' => ∃ v, e = .returned v ∧ w'.ownsRow w.heap.size 9 1 v ws.length (ws.map Value.string) ∧ Below w.heap.size w w' := by
  obtain ⟨h1, h2, h3, h4, h5, h6⟩ := h
  exact wordsOf_ok k wd (lineS wd ws) ws.length (wd :: ws) m w hkw h1 hm h4 h2 h3 h5 rfl rfl h6
theorem Cloths.set {w : World} {base : Nat} {vs : List Value} {cls : List (List ByteArray)} (h : Cloths w base vs cls) {a : Addr} (ha : a.block < base) (u : Value) : Cloths (w.setCell a u) base vs cls := ⟨h.1, fun i h1 h2 => ownsRow_setCell_below (h.2 i h1 h2) ha u⟩
theorem Cloths.mono {w : World} {base base' : Nat} {vs : List Value} {cls : List (List ByteArray)} (h : Cloths w base vs cls) (hb : base' ≤ base) : Cloths w base' vs cls := ⟨h.1, fun i h1 h2 => own_mono (h.2 i h1 h2) hb⟩
theorem Rd_init {w : World} {g B : Nat} {t : TypeId} {xs : List ByteArray} {y : ByteArray} (h : Blk w g t ((xs ++ [y]).map Value.string).toArray) (hg : g < B) : Rd w B 1 (some ⟨g, 0, none⟩) xs.length (xs.map Value.string) := by
  refine ⟨by simp, fun _ => ⟨g, 0, rfl, hg, fun j u hu => ?_⟩⟩
  rw [Nat.zero_add, h.cell j]
  obtain ⟨hj, _⟩ := List.getElem?_eq_some_iff.1 hu
  rw [List.length_map] at hj
  have e : (((xs ++ [y]).map Value.string).toArray)[j]? = (xs.map Value.string)[j]? := by
    rw [List.getElem?_toArray, List.map_append, List.getElem?_append_left (by rw [List.length_map]; exact hj)]
  rw [e]; exact hu
set_option maxRecDepth 100000 in
set_option maxHeartbeats 25600000 in
theorem parse_ok (a0 a1 a2 a3 a4 a5 : Nat) (ha : ∀ a ∈ [a0, a1, a2, a3, a4, a5], a < 100) (s : ByteArray) (rl : List (List ByteArray)) (Ls : List ByteArray) (S K : Nat) (m : Int) (w : World) (hE : Env m w) (hs : s.size ≤ 1000) (hend : hasSuffix s.data.toList [10] = true) (htz : ByteArray.size ⟨(trimSuffix s.data.toList [10]).toArray⟩ ≤ 1000)
    (hcnt : countB ⟨(trimSuffix s.data.toList [10]).toArray⟩ ⟨#[10]⟩ = K + 1) (hspl : splitB ⟨#[10]⟩ 0 (K + 1) ⟨(trimSuffix s.data.toList [10]).toArray⟩ = Ls ++ [lineS wEnd [dgt3 (S % 173)]]) (hLs : Ls = lineS wStage ([a0, a1, a2, a3, a4, a5].map dS) :: rl.map (lineS wFigure)) (hK : rl.length = K) (hK2 : K ≤ 50) (hst : LineOk wStage ([a0, a1, a2, a3, a4, a5].map dS)) (hfg : ∀ rows ∈ rl, LineOk wFigure rows) (hsz : ∀ l ∈ Ls, l.size ≤ 100000) (hsum : sumA Ls 0 0 = S) :
    Calls Tryz.prog 141 #[.string s] w fun e w' => ∃ v vs, e = .returned (.tuple #[.agg #[.int .i64 a0, .int .i64 a1, .int .i64 a2, .int .i64 a3, .int .i64 a4, .int .i64 a5, v], .int .i64 0]) ∧ w'.ownsRow w.heap.size 26 1 v K vs ∧ Cloths w' w.heap.size vs rl ∧ Below w.heap.size w w' := by
  have hmf : ∀ (fn : Fn) (first cap : Array Value) (w : World), (Instr.makeFunc fn first cap).run Tryz.prog w = .ok (.func fn first cap) w := fun _ _ _ _ => rfl
  obtain ⟨i0, hi, hz0, hz1', hz2'⟩ := info_parts info26
  obtain ⟨le, hle⟩ : ∃ le, le = lineS wEnd [dgt3 (S % 173)] := ⟨_, rfl⟩
  rw [← hle] at hspl
  obtain ⟨l0, hl0⟩ : ∃ l0, l0 = lineS wStage ([a0, a1, a2, a3, a4, a5].map dS) := ⟨_, rfl⟩
  rw [← hl0] at hLs
  have hLl : Ls.length = K + 1 := by rw [hLs, List.length_cons, List.length_map, hK]
  have hlines := fun wx hx => linesOf_ok s m wx hs hx hend htz
  rw [hcnt, hspl] at hlines
  have hw0 := fun wx hx => words_ok 0 wStage ([a0, a1, a2, a3, a4, a5].map dS) m wx word_stage hst hx
  rw [← hl0] at hw0
  have hwf := fun rows (hr : rows ∈ rl) wx hx => words_ok 1 wFigure rows m wx word_figure (hfg rows hr) hx
  have hps := fun (A : Option Addr) (cap : Nat) wx hx => parseStage_ok a0 a1 a2 a3 a4 a5 A cap (dS a0) (dS a1) (dS a2) (dS a3) (dS a4) (dS a5) wx hx (parseNum_any a0 (ha _ (by simp))) (parseNum_any a1 (ha _ (by simp))) (parseNum_any a2 (ha _ (by simp))) (parseNum_any a3 (ha _ (by simp))) (parseNum_any a4 (ha _ (by simp))) (parseNum_any a5 (ha _ (by simp)))
  have hend2 := fun (A : Option Addr) (cap : Nat) wx hr hx => endOf_any A (K + 1) cap Ls S m wx (by omega) hsz hr hsum hx
  rw [← hle] at hend2
  obtain ⟨arr, harr⟩ : ∃ arr, arr = ((Ls ++ [le]).map Value.string).toArray := ⟨_, rfl⟩
  rw [← harr] at hlines
  have hq0 : arr[0]? = some (.string l0) := by rw [harr, hLs]; rfl
  have hqf : ∀ k (hk : k < rl.length), arr[1 + k]? = some (.string (lineS wFigure rl[k])) := fun k hk => by
    rw [harr, hLs, List.getElem?_toArray, Nat.add_comm, List.cons_append, List.map_cons, List.getElem?_cons_succ, List.map_append, List.getElem?_append_left (by rw [List.length_map, List.length_map]; exact hk), List.getElem?_map, List.getElem?_map, List.getElem?_eq_getElem hk]
    rfl
  have hql : arr[K + 1]? = some (.string le) := by
    rw [harr, List.getElem?_toArray, List.map_append, List.getElem?_append_right (by rw [List.length_map, hLl]; exact Nat.le_refl _)]
    simp [hLl]
  have hsl1 := run_slice_cut (P := Tryz.prog) 24 9 1 Tryz.underlying24 (fun _ => by kernel_rfl) (some ⟨w.heap.size + 1 + 1, 0, none⟩) (K + 1 + 1) (K + 1 + 1) .i64 .i64 1 (K + 1) (by omega) (by omega)
  rw [show cutA (some ⟨w.heap.size + 1 + 1, 0, none⟩) (K + 1 + 1) 1 1 = some ⟨w.heap.size + 1 + 1, 1, none⟩ by unfold cutA; rw [if_neg (by omega)]; rfl, show K + 1 - 1 = K by omega, show K + 1 + 1 - 1 = K + 1 by omega] at hsl1
  have hsl2 := run_slice_hi (P := Tryz.prog) 24 9 1 Tryz.underlying24 (fun _ => by kernel_rfl) (w.heap.size + 1 + 1) (K + 1 + 1) (K + 1 + 1) .i64 (K + 1) (by omega) (by omega)
  have hwr := i64_ok ((K : Int) + 1) (by omega)
  have hge1 : (1 : Int) ≤ (K : Int) + 1 := by omega
  have hRd : ∀ wx, Blk wx (w.heap.size + 1 + 1) 9 arr → Rd wx wx.heap.size 1 (some ⟨w.heap.size + 1 + 1, 0, none⟩) (K + 1) (Ls.map Value.string) := fun wx hx => by
    rw [← hLl]; rw [harr] at hx; exact Rd_init hx hx.lt
  have HL := Lib.hid hlines; have HW0 := Lib.hid hw0; have HWF := Lib.hid hwf; have HPS := Lib.hid hps; have HEN := Lib.hid hend2; have HQ0 := Lib.hid hq0; have HQF := Lib.hid hqf; have HQL := Lib.hid hql; have HRD := Lib.hid hRd; have HK := Lib.hid hK
  clear hlines hw0 hwf hps hend2 hq0 hqf hql hRd harr hLs hl0 hle hspl hcnt htz hend hst hfg hsz hsum hLl hs ha hK
  have hB2 : Below w.heap.size w ((w.alloc (.cells #[.int .i64 0, .int .i64 0, .int .i64 0, .int .i64 0, .int .i64 0, .int .i64 0, .slice none 0 0] 121)).alloc (.cells #[.int .i64 0] 31)) := ((Below.refl _ w).alloc (Nat.le_refl _) _).alloc (by simp only [World.size_alloc]; omega) _
  have hB3 : Below w.heap.size w (((w.alloc (.cells #[.int .i64 0, .int .i64 0, .int .i64 0, .int .i64 0, .int .i64 0, .int .i64 0, .slice none 0 0] 121)).alloc (.cells #[.int .i64 0] 31)).alloc (.cells arr 9)) := hB2.alloc hB2.size _
  have gT : Blk (((w.alloc (.cells #[.int .i64 0, .int .i64 0, .int .i64 0, .int .i64 0, .int .i64 0, .int .i64 0, .slice none 0 0] 121)).alloc (.cells #[.int .i64 0] 31)).alloc (.cells arr 9)) w.heap.size 121 #[.int .i64 0, .int .i64 0, .int .i64 0, .int .i64 0, .int .i64 0, .int .i64 0, .slice none 0 0] := ((Blk.new w 121 #[.int .i64 0, .int .i64 0, .int .i64 0, .int .i64 0, .int .i64 0, .int .i64 0, .slice none 0 0]).alloc _).alloc _
  have gE : Blk (((w.alloc (.cells #[.int .i64 0, .int .i64 0, .int .i64 0, .int .i64 0, .int .i64 0, .int .i64 0, .slice none 0 0] 121)).alloc (.cells #[.int .i64 0] 31)).alloc (.cells arr 9)) (w.heap.size + 1) 31 #[.int .i64 0] := (blk2 w _ 31 #[.int .i64 0]).alloc _
  have gL : Blk (((w.alloc (.cells #[.int .i64 0, .int .i64 0, .int .i64 0, .int .i64 0, .int .i64 0, .int .i64 0, .slice none 0 0] 121)).alloc (.cells #[.int .i64 0] 31)).alloc (.cells arr 9)) (w.heap.size + 1 + 1) 9 arr := by have h := Blk.new ((w.alloc (.cells #[.int .i64 0, .int .i64 0, .int .i64 0, .int .i64 0, .int .i64 0, .int .i64 0, .slice none 0 0] 121)).alloc (.cells #[.int .i64 0] 31)) 9 arr; simpa only [World.size_alloc] using h
  have hE2 := hE.below hB2
  have hL2 := HL.out _ hE2.1
  simp only [World.size_alloc] at hL2
  have hcl0 := (gL.cell 0).trans HQ0.out; have hlL := gL.lt
  go_enter_defers Tryz.func141, Tryz.ntmps141
  go_upto_region 6 with (first
    | (go_at_call 174; refine hL2.mono ?_; rintro e w4 ⟨rfl, rfl⟩; clear hL2)
    | (go_at_call 175; refine (insist_ok _).mono ?_; rintro e w4 ⟨rfl, rfl⟩)
    | (go_at_call 177; refine (HW0.out _ (hE.below hB3).1).mono ?_; rintro e w4 ⟨v4, rfl, own4, hb4⟩; obtain ⟨A4, c4, rfl⟩ := own_slice own4; have hr4 := Rd.of_own own4; clear own4; replace gT := gT.below hb4 gT.lt; replace gE := gE.below hb4 gE.lt; replace gL := gL.below hb4 gL.lt; replace hB3 := hB3.trans (hb4.mono hB3.size); clear hb4 hcl0 hlL)
    | (go_at_call 176; refine (HPS.out A4 c4 _ hr4).mono ?_; rintro e w5 ⟨rfl, hb5⟩; clear hr4; replace gT := gT.below hb5 gT.lt; replace gE := gE.below hb5 gE.lt; replace gL := gL.below hb5 gL.lt; replace hB3 := hB3.trans (hb5.mono hB3.size); clear hb5; have hqT := fun i => gT.cell i; have hfT := fun i => gT.frozen i; have hlT := gT.lt))
  clear hqT hfT hlT HPS HW0
  replace gT := gT.set_ 0 (.int .i64 a0)
  replace gE := gE.far (p := ⟨w.heap.size, 0, none⟩) (show w.heap.size + 1 ≠ w.heap.size by omega) (.int .i64 a0)
  replace gL := gL.far (p := ⟨w.heap.size, 0, none⟩) (show w.heap.size + 1 + 1 ≠ w.heap.size by omega) (.int .i64 a0)
  replace hB3 := hB3.setCell (p := ⟨w.heap.size, 0, none⟩) (Nat.le_refl w.heap.size) (.int .i64 a0)
  replace gT := gT.set_ 1 (.int .i64 a1)
  replace gE := gE.far (p := ⟨w.heap.size, 1, none⟩) (show w.heap.size + 1 ≠ w.heap.size by omega) (.int .i64 a1)
  replace gL := gL.far (p := ⟨w.heap.size, 1, none⟩) (show w.heap.size + 1 + 1 ≠ w.heap.size by omega) (.int .i64 a1)
  replace hB3 := hB3.setCell (p := ⟨w.heap.size, 1, none⟩) (Nat.le_refl w.heap.size) (.int .i64 a1)
  replace gT := gT.set_ 2 (.int .i64 a2)
  replace gE := gE.far (p := ⟨w.heap.size, 2, none⟩) (show w.heap.size + 1 ≠ w.heap.size by omega) (.int .i64 a2)
  replace gL := gL.far (p := ⟨w.heap.size, 2, none⟩) (show w.heap.size + 1 + 1 ≠ w.heap.size by omega) (.int .i64 a2)
  replace hB3 := hB3.setCell (p := ⟨w.heap.size, 2, none⟩) (Nat.le_refl w.heap.size) (.int .i64 a2)
  replace gT := gT.set_ 3 (.int .i64 a3)
  replace gE := gE.far (p := ⟨w.heap.size, 3, none⟩) (show w.heap.size + 1 ≠ w.heap.size by omega) (.int .i64 a3)
  replace gL := gL.far (p := ⟨w.heap.size, 3, none⟩) (show w.heap.size + 1 + 1 ≠ w.heap.size by omega) (.int .i64 a3)
  replace hB3 := hB3.setCell (p := ⟨w.heap.size, 3, none⟩) (Nat.le_refl w.heap.size) (.int .i64 a3)
  replace gT := gT.set_ 4 (.int .i64 a4)
  replace gE := gE.far (p := ⟨w.heap.size, 4, none⟩) (show w.heap.size + 1 ≠ w.heap.size by omega) (.int .i64 a4)
  replace gL := gL.far (p := ⟨w.heap.size, 4, none⟩) (show w.heap.size + 1 + 1 ≠ w.heap.size by omega) (.int .i64 a4)
  replace hB3 := hB3.setCell (p := ⟨w.heap.size, 4, none⟩) (Nat.le_refl w.heap.size) (.int .i64 a4)
  replace gT := gT.set_ 5 (.int .i64 a5)
  replace gE := gE.far (p := ⟨w.heap.size, 5, none⟩) (show w.heap.size + 1 ≠ w.heap.size by omega) (.int .i64 a5)
  replace gL := gL.far (p := ⟨w.heap.size, 5, none⟩) (show w.heap.size + 1 + 1 ≠ w.heap.size by omega) (.int .i64 a5)
  replace hB3 := hB3.setCell (p := ⟨w.heap.size, 5, none⟩) (Nat.le_refl w.heap.size) (.int .i64 a5)
  replace gT : Blk ((((((w5.setCell ⟨w.heap.size, 0, none⟩ (.int .i64 a0)).setCell ⟨w.heap.size, 1, none⟩ (.int .i64 a1)).setCell ⟨w.heap.size, 2, none⟩ (.int .i64 a2)).setCell ⟨w.heap.size, 3, none⟩ (.int .i64 a3)).setCell ⟨w.heap.size, 4, none⟩ (.int .i64 a4)).setCell ⟨w.heap.size, 5, none⟩ (.int .i64 a5)) w.heap.size 121 #[.int .i64 a0, .int .i64 a1, .int .i64 a2, .int .i64 a3, .int .i64 a4, .int .i64 a5, .slice none 0 0] := gT
  generalize ((((((w5.setCell ⟨w.heap.size, 0, none⟩ (.int .i64 a0)).setCell ⟨w.heap.size, 1, none⟩ (.int .i64 a1)).setCell ⟨w.heap.size, 2, none⟩ (.int .i64 a2)).setCell ⟨w.heap.size, 3, none⟩ (.int .i64 a3)).setCell ⟨w.heap.size, 4, none⟩ (.int .i64 a4)).setCell ⟨w.heap.size, 5, none⟩ (.int .i64 a5)) = w6 at *
  go_wp2_with (fail)
  have hown0 : w6.ownsRow (w.heap.size + 1 + 1) 26 1 (.slice none 0 0) 0 [] := World.ownsRow_nil _ _ _ _
  go_loopg [27] K (fun g i wr => ∃ (k : Nat) (v0 : Value) (vs : List Value), g = K - k ∧ k ≤ K ∧ i = .int .i64 k ∧ wr.ownsRow (w.heap.size + 1 + 1) 26 1 v0 k vs ∧ Cloths wr (w.heap.size + 1 + 1) vs (rl.take k) ∧ Blk wr w.heap.size 121 #[.int .i64 a0, .int .i64 a1, .int .i64 a2, .int .i64 a3, .int .i64 a4, .int .i64 a5, v0] ∧ Blk wr (w.heap.size + 1) 31 #[.int .i64 0] ∧ Blk wr (w.heap.size + 1 + 1) 9 arr ∧ Below w.heap.size w wr)
  case atStart => exact ⟨0, _, [], rfl, Nat.zero_le _, rfl, hown0, Cloths.nil _ _, gT, gE, gL, hB3⟩
  case round =>
    clear gT gE gL hB3 hown0
    obtain ⟨k, v0, vs, hg, hk, rfl, hown, hcl, gT, gE, gL, hB⟩ := hrel
    obtain ⟨va, vc, rfl⟩ := own_slice hown
    have HG := Lib.hid hg; clear hg
    by_cases hlt : k < K
    · have hlti : (k : Int) < K := by omega
      have hzk : k < rl.length := by rw [HK.out]; exact hlt
      have hck := (gL.cell (1 + k)).trans (HQF.out k hzk)
      have hts : rl.take (k + 1) = rl.take k ++ [rl[k]] := List.take_succ_eq_append_getElem hzk
      have hWF := HWF.out rl[k] (List.getElem_mem hzk)
      have hlL := gL.lt
      generalize rl[k] = rows at *
      have HTS := Lib.hid hts; have HWK := Lib.hid hWF; clear hts hWF
      go_upto_region 9 with (fail)
      refine wp_nopanic ?_
      rename World => WR
      refine wp_region_G (fun w' => Blk w' w.heap.size 121 #[.int .i64 a0, .int .i64 a1, .int .i64 a2, .int .i64 a3, .int .i64 a4, .int .i64 a5, .slice va k vc]) 8 (by kernel_rfl) ?_
      replace gT := gT.drew; replace gE := gE.drew; replace gL := gL.drew; replace hB := hB.drew; replace hown := hown.drew; replace hcl := hcl.drew
      clear hck hlL
      generalize WR.drew = WD at *
      have hlLD : w.heap.size + 1 + 1 ≤ WD.heap.size := Nat.le_of_lt gL.lt
      have hTT := gT
      refine wpG_take (i := 0) (v := ?v7_0) rfl (by kernel_rfl) (by kernel_rfl) (by kernel_rfl) (by kernel_rfl) (fun _ _ _ h => h) (Or.inl ⟨by rfl, ?hy7_0⟩) hTT ?rest7_0
      case hy7_0 => intro wq hSw; have hq1 := fun i => hSw.cell i; go_simp <;> with_reducible rfl
      simp only [List.getElem_toArray, List.getElem_cons_zero, List.getElem_cons_succ, Act.put, List.setIfInBounds_toArray, List.set_cons_zero, List.set_cons_succ]
      refine wpG_take (i := 1) (v := ?v7_1) rfl (by kernel_rfl) (by kernel_rfl) (by kernel_rfl) (by kernel_rfl) (fun _ _ _ h => h) (Or.inl ⟨by rfl, ?hy7_1⟩) hTT ?rest7_1
      case hy7_1 => intro wq hSw; have hq1 := fun i => hSw.cell i; go_simp <;> with_reducible rfl
      simp only [List.getElem_toArray, List.getElem_cons_zero, List.getElem_cons_succ, Act.put, List.setIfInBounds_toArray, List.set_cons_zero, List.set_cons_succ]
      refine wpG_take (i := 2) (v := ?v7_2) rfl (by kernel_rfl) (by kernel_rfl) (by kernel_rfl) (by kernel_rfl) (fun _ _ _ h => h) (Or.inl ⟨by rfl, ?hy7_2⟩) hTT ?rest7_2
      case hy7_2 => intro wq hSw; have hq1 := fun i => hSw.cell i; go_simp <;> with_reducible rfl
      simp only [List.getElem_toArray, List.getElem_cons_zero, List.getElem_cons_succ, Act.put, List.setIfInBounds_toArray, List.set_cons_zero, List.set_cons_succ]
      refine wpG_one (i := 3) rfl (by kernel_rfl) (fun K hK => ?_)
      go_simp
      refine (HWK.out _ (hE.below hB).1).mono ?_; rintro e w7 ⟨v4, rfl, own4, hb4⟩
      replace gT := gT.below hb4 gT.lt; replace gE := gE.below hb4 gE.lt; replace gL := gL.below hb4 gL.lt; replace hown := ownsRow_below' hown hb4; replace hcl := hcl.below hb4
      replace own4 := own_mono own4 hlLD
      obtain ⟨g4, c4, rfl⟩ := own_slice own4
      replace hB := hB.trans (hb4.mono hB.size); clear hb4 hTT; have hTT := gT; dsimp only
      refine hK _ _ (.inr hTT) ?_
      clear hK K
      try simp only [List.getElem_toArray, List.getElem_cons_zero, List.getElem_cons_succ, Act.put, List.setIfInBounds_toArray, List.set_cons_zero, List.set_cons_succ]
      refine wpG_take (i := 4) (v := ?v7_4) rfl (by kernel_rfl) (by kernel_rfl) (by kernel_rfl) (by kernel_rfl) (fun _ _ _ h => h) (Or.inl ⟨by rfl, ?hy7_4⟩) hTT ?rest7_4
      case hy7_4 => intro wq hSw; have hq1 := fun i => hSw.cell i; go_simp <;> with_reducible rfl
      simp only [List.getElem_toArray, List.getElem_cons_zero, List.getElem_cons_succ, Act.put, List.setIfInBounds_toArray, List.set_cons_zero, List.set_cons_succ]
      refine wpG_one (i := 5) rfl (by kernel_rfl) (fun K hK => ?_)
      go_simp
      replace gT := gT.alloc (.cells #[.slice g4 rows.length c4] 26); replace gE := gE.alloc (.cells #[.slice g4 rows.length c4] 26); replace gL := gL.alloc (.cells #[.slice g4 rows.length c4] 26); replace hown := hown.alloc (.cells #[.slice g4 rows.length c4] 26); replace hcl := hcl.alloc (.cells #[.slice g4 rows.length c4] 26); replace own4 := own4.alloc (.cells #[.slice g4 rows.length c4] 26); replace hB := hB.alloc hB.size (.cells #[.slice g4 rows.length c4] 26); clear hTT; have hTT := gT
      refine hK _ _ (.inr hTT) ?_
      clear hK K
      try simp only [List.getElem_toArray, List.getElem_cons_zero, List.getElem_cons_succ, Act.put, List.setIfInBounds_toArray, List.set_cons_zero, List.set_cons_succ]
      refine wpG_one (i := 6) rfl (by kernel_rfl) (fun K hK => ?_)
      rw [if_pos (by rfl)]; refine wp_append_any _ _ _ 51 rfl (w.heap.size + 1 + 1) 26 i0 (.agg #[.slice none 0 0]) 1 24 Tryz.underlying51 hi hz0 hz1' hz2' rfl (by decide) _ k vs rfl hown (w7.heap.size + 1) (some ⟨w7.heap.size, 0, none⟩) 1 1 [.slice g4 rows.length c4] rfl (Rd.blkN (Blk.new _ _ _) rfl (Nat.lt_succ_self _)).reads (by simp [Value.oneCell']) (by unfold maxLen; omega) (by omega) (Nat.le_of_lt gL.lt) (fun v8 w8 hown8 hgrow hob => ?_)
      replace gT := gT.kept_own hown (by decide) hgrow; replace gE := gE.kept_own hown (by decide) hgrow; replace gL := gL.kept_own hown (by decide) hgrow
      have hcl2 := (hcl.snoc own4).kept hown (by decide) hgrow
      replace hB := hB.grown hgrow hB.size (fun g hg => Nat.le_trans (by omega) (hown.lt g hg).1)
      obtain ⟨v8A, v8c, rfl⟩ := own_slice hown8
      clear hTT hown hcl own4; have hTT := gT; have hqT := fun i => gT.cell i; have hfT := fun i => gT.frozen i; have hlT := gT.lt
      refine hK _ _ (.inr hTT) ?_
      clear hK K
      try simp only [List.getElem_toArray, List.getElem_cons_zero, List.getElem_cons_succ, Act.put, List.setIfInBounds_toArray, List.set_cons_zero, List.set_cons_succ]
      refine wpG_take (i := 7) (v := ?v7_7) rfl (by kernel_rfl) (by kernel_rfl) (by kernel_rfl) (by kernel_rfl) (fun _ _ _ h => h) (Or.inl ⟨by rfl, ?hy7_7⟩) hTT ?rest7_7
      case hy7_7 => intro wq hSw; have hq1 := fun i => hSw.cell i; go_simp <;> with_reducible rfl
      simp only [List.getElem_toArray, List.getElem_cons_zero, List.getElem_cons_succ, Act.put, List.setIfInBounds_toArray, List.set_cons_zero, List.set_cons_succ]
      refine wpG_one (i := 8) rfl (by kernel_rfl) (fun K hK => ?_)
      go_simp
      refine hK _ _ (.inl rfl) ?_
      clear hK K
      try simp only [List.getElem_toArray, List.getElem_cons_zero, List.getElem_cons_succ, Act.put, List.setIfInBounds_toArray, List.set_cons_zero, List.set_cons_succ]
      refine wpG_done (by kernel_rfl) ?_ _
      dsimp only
      clear hTT hqT hfT hlT
      replace gT := gT.set_ 6 (.slice v8A (k + 1) v8c)
      replace gE := gE.far (p := ⟨w.heap.size, 6, none⟩) (show w.heap.size + 1 ≠ w.heap.size by omega) (.slice v8A (k + 1) v8c)
      replace gL := gL.far (p := ⟨w.heap.size, 6, none⟩) (show w.heap.size + 1 + 1 ≠ w.heap.size by omega) (.slice v8A (k + 1) v8c)
      replace hB := hB.setCell (p := ⟨w.heap.size, 6, none⟩) (Nat.le_refl w.heap.size) (.slice v8A (k + 1) v8c)
      replace hown8 := ownsRow_setCell_below hown8 (a := ⟨w.heap.size, 6, none⟩) (show w.heap.size < w.heap.size + 1 + 1 by omega) (.slice v8A (k + 1) v8c)
      replace hcl2 := hcl2.set (a := ⟨w.heap.size, 6, none⟩) (show w.heap.size < w.heap.size + 1 + 1 by omega) (.slice v8A (k + 1) v8c)
      generalize w8.setCell ⟨w.heap.size, 6, none⟩ (.slice v8A (k + 1) v8c) = w9 at *
      go_wp2_with (fail)
      go_roundg (K - (k + 1))
      case measure => rw [HG.out]; omega
      case rel => exact ⟨k + 1, _, _, rfl, by omega, by go_num, hown8, by rw [HTS.out]; exact hcl2, by simpa using gT, gE, gL, hB⟩
    · obtain rfl : k = K := by omega
      have hge : ¬ (k : Int) < k := by omega
      have htk : rl.take k = rl := List.take_of_length_le (by rw [HK.out]; exact Nat.le_refl _)
      rw [htk] at hcl
      have hckl := (gL.cell (k + 1)).trans HQL.out
      have hlL := gL.lt
      clear htk
      go_wp2_with (fail)
      rename World => W2
      have hbb := fun (p : Blw W2.heap.size W2) => (blw_blk gL p (k + 1)).trans HQL.out
      refine wp_region_blw (by kernel_rfl) (by kernel_rfl) ?_
      repeat (go_big_quiet_step (first | (go_at_call 172; exact Calls.blw_of _ (HEN.out _ _ _ (HRD.out _ (gL.below (Blw.h _) gL.lt)) ((hE.below hB).below (Blw.h _)))) | (go_at_call 175; exact Calls.blw_of_same _ (insist_ok _))))
      refine wpQuiet_nil ?_
      rintro W3 ⟨⟨_, hb3⟩, rfl⟩
      replace gT := gT.below hb3 gT.lt; replace gE := gE.below hb3 gE.lt; replace gL := gL.below hb3 gL.lt; replace hown := ownsRow_below' hown hb3; replace hcl := hcl.below hb3; replace hB := hB.trans (hb3.mono hB.size)
      have hqT := fun i => gT.cell i; have hfT := fun i => gT.frozen i; have hlT := gT.lt; have hqE := fun i => gE.cell i; have hfE := fun i => gE.frozen i; have hlE := gE.lt
      clear hbb hckl hlL
      go_wp2_with (fail)
      clear hqT hfT hlT hqE hfE hlE
      replace gT := gT.set_ 0 (.int .i64 a0); replace gE := gE.far (p := ⟨w.heap.size, 0, none⟩) (show w.heap.size + 1 ≠ w.heap.size by omega) (.int .i64 a0); replace hB := hB.setCell (p := ⟨w.heap.size, 0, none⟩) (Nat.le_refl w.heap.size) (.int .i64 a0)
      replace hown := ownsRow_setCell_below hown (a := ⟨w.heap.size, 0, none⟩) (show w.heap.size < w.heap.size + 1 + 1 by omega) (.int .i64 a0); replace hcl := hcl.set (a := ⟨w.heap.size, 0, none⟩) (show w.heap.size < w.heap.size + 1 + 1 by omega) (.int .i64 a0)
      replace gT := gT.set_ 1 (.int .i64 a1); replace gE := gE.far (p := ⟨w.heap.size, 1, none⟩) (show w.heap.size + 1 ≠ w.heap.size by omega) (.int .i64 a1); replace hB := hB.setCell (p := ⟨w.heap.size, 1, none⟩) (Nat.le_refl w.heap.size) (.int .i64 a1)
      replace hown := ownsRow_setCell_below hown (a := ⟨w.heap.size, 1, none⟩) (show w.heap.size < w.heap.size + 1 + 1 by omega) (.int .i64 a1); replace hcl := hcl.set (a := ⟨w.heap.size, 1, none⟩) (show w.heap.size < w.heap.size + 1 + 1 by omega) (.int .i64 a1)
      replace gT := gT.set_ 2 (.int .i64 a2); replace gE := gE.far (p := ⟨w.heap.size, 2, none⟩) (show w.heap.size + 1 ≠ w.heap.size by omega) (.int .i64 a2); replace hB := hB.setCell (p := ⟨w.heap.size, 2, none⟩) (Nat.le_refl w.heap.size) (.int .i64 a2)
      replace hown := ownsRow_setCell_below hown (a := ⟨w.heap.size, 2, none⟩) (show w.heap.size < w.heap.size + 1 + 1 by omega) (.int .i64 a2); replace hcl := hcl.set (a := ⟨w.heap.size, 2, none⟩) (show w.heap.size < w.heap.size + 1 + 1 by omega) (.int .i64 a2)
      replace gT := gT.set_ 3 (.int .i64 a3); replace gE := gE.far (p := ⟨w.heap.size, 3, none⟩) (show w.heap.size + 1 ≠ w.heap.size by omega) (.int .i64 a3); replace hB := hB.setCell (p := ⟨w.heap.size, 3, none⟩) (Nat.le_refl w.heap.size) (.int .i64 a3)
      replace hown := ownsRow_setCell_below hown (a := ⟨w.heap.size, 3, none⟩) (show w.heap.size < w.heap.size + 1 + 1 by omega) (.int .i64 a3); replace hcl := hcl.set (a := ⟨w.heap.size, 3, none⟩) (show w.heap.size < w.heap.size + 1 + 1 by omega) (.int .i64 a3)
      replace gT := gT.set_ 4 (.int .i64 a4); replace gE := gE.far (p := ⟨w.heap.size, 4, none⟩) (show w.heap.size + 1 ≠ w.heap.size by omega) (.int .i64 a4); replace hB := hB.setCell (p := ⟨w.heap.size, 4, none⟩) (Nat.le_refl w.heap.size) (.int .i64 a4)
      replace hown := ownsRow_setCell_below hown (a := ⟨w.heap.size, 4, none⟩) (show w.heap.size < w.heap.size + 1 + 1 by omega) (.int .i64 a4); replace hcl := hcl.set (a := ⟨w.heap.size, 4, none⟩) (show w.heap.size < w.heap.size + 1 + 1 by omega) (.int .i64 a4)
      replace gT := gT.set_ 5 (.int .i64 a5); replace gE := gE.far (p := ⟨w.heap.size, 5, none⟩) (show w.heap.size + 1 ≠ w.heap.size by omega) (.int .i64 a5); replace hB := hB.setCell (p := ⟨w.heap.size, 5, none⟩) (Nat.le_refl w.heap.size) (.int .i64 a5)
      replace hown := ownsRow_setCell_below hown (a := ⟨w.heap.size, 5, none⟩) (show w.heap.size < w.heap.size + 1 + 1 by omega) (.int .i64 a5); replace hcl := hcl.set (a := ⟨w.heap.size, 5, none⟩) (show w.heap.size < w.heap.size + 1 + 1 by omega) (.int .i64 a5)
      replace gT := gT.set_ 6 (.slice va k vc); replace gE := gE.far (p := ⟨w.heap.size, 6, none⟩) (show w.heap.size + 1 ≠ w.heap.size by omega) (.slice va k vc); replace hB := hB.setCell (p := ⟨w.heap.size, 6, none⟩) (Nat.le_refl w.heap.size) (.slice va k vc)
      replace hown := ownsRow_setCell_below hown (a := ⟨w.heap.size, 6, none⟩) (show w.heap.size < w.heap.size + 1 + 1 by omega) (.slice va k vc); replace hcl := hcl.set (a := ⟨w.heap.size, 6, none⟩) (show w.heap.size < w.heap.size + 1 + 1 by omega) (.slice va k vc)
      replace gE := gE.set_ 0 (.int .i64 0); replace gT := gT.far (p := ⟨w.heap.size + 1, 0, none⟩) (show w.heap.size ≠ w.heap.size + 1 by omega) (.int .i64 0); replace hB := hB.setCell (p := ⟨w.heap.size + 1, 0, none⟩) (show w.heap.size ≤ w.heap.size + 1 by omega) (.int .i64 0)
      replace hown := ownsRow_setCell_below hown (a := ⟨w.heap.size + 1, 0, none⟩) (show w.heap.size + 1 < w.heap.size + 1 + 1 by omega) (.int .i64 0); replace hcl := hcl.set (a := ⟨w.heap.size + 1, 0, none⟩) (show w.heap.size + 1 < w.heap.size + 1 + 1 by omega) (.int .i64 0)
      generalize (((((((W3.setCell ⟨w.heap.size, 0, none⟩ (.int .i64 a0)).setCell ⟨w.heap.size, 1, none⟩ (.int .i64 a1)).setCell ⟨w.heap.size, 2, none⟩ (.int .i64 a2)).setCell ⟨w.heap.size, 3, none⟩ (.int .i64 a3)).setCell ⟨w.heap.size, 4, none⟩ (.int .i64 a4)).setCell ⟨w.heap.size, 5, none⟩ (.int .i64 a5)).setCell ⟨w.heap.size, 6, none⟩ (.slice va k vc)).setCell ⟨w.heap.size + 1, 0, none⟩ (.int .i64 0) = w9 at *
      refine leaves_cons (f := 173) (args := #[.pointer (some ⟨w.heap.size, 0, none⟩), .pointer (some ⟨w.heap.size + 1, 0, none⟩)]) (by simp) (by simp [go_sem]) ?_
      refine (parseIdle _ _ _).mono ?_
      rintro e u' w2 ⟨rfl, rfl, rfl⟩
      have hcT := fun i => gT.cell i; have hcE := fun i => gE.cell i
      refine ⟨.tuple #[.agg #[.int .i64 a0, .int .i64 a1, .int .i64 a2, .int .i64 a3, .int .i64 a4, .int .i64 a5, .slice va k vc], .int .i64 0], ?_, _, _, rfl, own_mono hown (by omega), hcl.mono (by omega), hB⟩
      simp [results, Tryz.results141, go_sem, hcT, hcE]
end
section
open Go.RowKit Go.Lib
/-- A line, cut into its words. -/
def cutW (l : ByteArray) : List ByteArray := splitB ⟨#[32]⟩ 0 (countB l ⟨#[32]⟩) l
def WOk (kw l : ByteArray) : Prop := 1 ≤ countB l ⟨#[32]⟩ ∧ (cutW l)[0]? = some kw ∧ containsS (cutW l) ⟨#[]⟩ = false
theorem words_good (k : Int) (kw l : ByteArray) (m : Int) (w : World) (hkw : ∀ w : World, Calls Tryz.prog 196 #[.int .i64 k] w fun e w' => e = .returned (.string kw) ∧ w = w') (hl : l.size ≤ 1000) (hm : w.cell? ⟨0, 0, none⟩ = some (.int .i64 m)) (h : WOk kw l) : Calls Tryz.prog 177 #[.int .i64 k, .string l] w fun e w' => ∃ v, e = .returned v ∧ w'.ownsRow w.heap.size 9 1 v (countB l ⟨#[32]⟩) (((cutW l).drop 1).map Value.string) ∧ Below w.heap.size w w' :=
  wordsOf_ok k kw l _ _ m w hkw hl hm rfl h.1 (Nat.le_trans (countB_le ⟨#[32]⟩ (Nat.le_refl 1) _ l (Nat.le_refl _)) hl) rfl (countB_split 32 l) h.2.1 h.2.2
theorem words_bad (k : Int) (kw l : ByteArray) (m : Int) (w : World) (hkw : ∀ w : World, Calls Tryz.prog 196 #[.int .i64 k] w fun e w' => e = .returned (.string kw) ∧ w = w') (hl : l.size ≤ 1000) (hm : w.cell? ⟨0, 0, none⟩ = some (.int .i64 m)) (h : ¬ WOk kw l) : Calls Tryz.prog 177 #[.int .i64 k, .string l] w fun e w' => e = BAD ∧ Below w.heap.size w w' := by
  have hn2 : countB l ⟨#[32]⟩ ≤ 1000 := Nat.le_trans (countB_le ⟨#[32]⟩ (Nat.le_refl 1) _ l (Nat.le_refl _)) hl
  have hlen := countB_split 32 l
  obtain ⟨w0, h0⟩ : ∃ w0, (cutW l)[0]? = some w0 := ⟨_, List.getElem?_eq_getElem (by unfold cutW; omega)⟩
  by_cases hz : countB l ⟨#[32]⟩ = 0
  · exact wordsOf_badA k kw l _ _ w0 m w hkw hl hm rfl hn2 rfl hlen h0 hz
  by_cases hk : w0 = kw
  · subst hk
    refine wordsOf_badC k w0 l _ _ m w hkw hl hm rfl hn2 rfl hlen h0 (by omega) ?_
    cases hc : containsS (cutW l) ⟨#[]⟩
    · exact absurd ⟨by omega, h0, hc⟩ h
    · exact hc
  · exact wordsOf_badB k kw l _ _ w0 m w hkw hl hm rfl hn2 rfl hlen h0 (by omega) hk
/-- What is answered for a text that is none. -/
def NONEB : Ending := .returned (.tuple #[.agg #[.int .i64 0, .int .i64 0, .int .i64 0, .int .i64 0, .int .i64 0, .int .i64 0, .slice none 0 0], .int .i64 4])
set_option maxRecDepth 100000 in
set_option maxHeartbeats 1600000 in
theorem parse_b1 (s : ByteArray) (w : World) (hs : s.size ≤ 1000) (hend : Lib.hasSuffix s.data.toList [10] = false) : Calls Tryz.prog 141 #[.string s] w fun e w' => e = NONEB ∧ Below w.heap.size w w' := by
  have hmf : ∀ (fn : Fn) (first cap : Array Value) (w : World), (Instr.makeFunc fn first cap).run Tryz.prog w = .ok (.func fn first cap) w := fun _ _ _ _ => rfl
  have hB2 : Below w.heap.size w ((w.alloc (.cells #[.int .i64 0, .int .i64 0, .int .i64 0, .int .i64 0, .int .i64 0, .int .i64 0, .slice none 0 0] 121)).alloc (.cells #[.int .i64 0] 31)) := ((Below.refl _ w).alloc (Nat.le_refl _) _).alloc (by simp only [World.size_alloc]; omega) _
  have gT : Blk ((w.alloc (.cells #[.int .i64 0, .int .i64 0, .int .i64 0, .int .i64 0, .int .i64 0, .int .i64 0, .slice none 0 0] 121)).alloc (.cells #[.int .i64 0] 31)) w.heap.size 121 #[.int .i64 0, .int .i64 0, .int .i64 0, .int .i64 0, .int .i64 0, .int .i64 0, .slice none 0 0] := (Blk.new w 121 #[.int .i64 0, .int .i64 0, .int .i64 0, .int .i64 0, .int .i64 0, .int .i64 0, .slice none 0 0]).alloc _
  have gE : Blk ((w.alloc (.cells #[.int .i64 0, .int .i64 0, .int .i64 0, .int .i64 0, .int .i64 0, .int .i64 0, .slice none 0 0] 121)).alloc (.cells #[.int .i64 0] 31)) (w.heap.size + 1) 31 #[.int .i64 0] := blk2 w _ 31 #[.int .i64 0]
  go_enter_defers Tryz.func141, Tryz.ntmps141
  go_wp2_with (first
    | (go_at_call 174; refine (linesOf_bad s _ hs hend).mono ?_; rintro e w4 ⟨rfl, hb⟩; replace gT := gT.below hb gT.lt; replace gE := gE.below hb gE.lt; replace hB2 := hB2.trans (hb.mono hB2.size)))
  rename_i chain heq
  unfold BAD at heq
  cases heq
  refine leaves_cons (f := 173) (args := #[.pointer (some ⟨w.heap.size, 0, none⟩), .pointer (some ⟨w.heap.size + 1, 0, none⟩)]) (by simp) (by simp [go_sem]) ?_
  refine (parseCatch _ _ _ _ _ _ _ _ _ _ [] _ gT gE (by omega)).mono ?_
  rintro e u' w9 ⟨rfl, rfl, g0, g1, hB⟩
  have q0 := fun i => g0.cell i; have q1 := fun i => g1.cell i
  have hB9 := hB _ _ hB2 (Nat.le_refl _) (by omega)
  simp [Leaves, settle, results, Tryz.results141, go_sem, q0, q1, NONEB]
  exact hB9
end
section
open Go.RowKit Go.Lib
set_option maxRecDepth 100000 in
set_option maxHeartbeats 3200000 in
theorem parse_b2 (s : ByteArray) (ls : List ByteArray) (N : Nat) (m : Int) (w : World) (hE : Env m w) (hs : s.size ≤ 1000) (hend : Lib.hasSuffix s.data.toList [10] = true) (htz : ByteArray.size ⟨(Lib.trimSuffix s.data.toList [10]).toArray⟩ ≤ 1000) (hcnt : countB ⟨(Lib.trimSuffix s.data.toList [10]).toArray⟩ ⟨#[10]⟩ = N) (hspl : splitB ⟨#[10]⟩ 0 N ⟨(Lib.trimSuffix s.data.toList [10]).toArray⟩ = ls) (hz : N = 0) : Calls Tryz.prog 141 #[.string s] w fun e w' => e = NONEB ∧ Below w.heap.size w w' := by
  have hmf : ∀ (fn : Fn) (first cap : Array Value) (w : World), (Instr.makeFunc fn first cap).run Tryz.prog w = .ok (.func fn first cap) w := fun _ _ _ _ => rfl
  have hlines := fun wx hx => linesOf_ok s m wx hs hx hend htz
  rw [hcnt, hspl] at hlines
  obtain ⟨arr, harr⟩ : ∃ arr, arr = (ls.map Value.string).toArray := ⟨_, rfl⟩
  rw [← harr] at hlines
  have hB0 : Below w.heap.size w ((w.alloc (.cells #[.int .i64 0, .int .i64 0, .int .i64 0, .int .i64 0, .int .i64 0, .int .i64 0, .slice none 0 0] 121)).alloc (.cells #[.int .i64 0] 31)) := ((Below.refl _ w).alloc (Nat.le_refl _) _).alloc (by simp only [World.size_alloc]; omega) _
  have hB2 : Below w.heap.size w (((w.alloc (.cells #[.int .i64 0, .int .i64 0, .int .i64 0, .int .i64 0, .int .i64 0, .int .i64 0, .slice none 0 0] 121)).alloc (.cells #[.int .i64 0] 31)).alloc (.cells arr 9)) := hB0.alloc hB0.size _
  have gT : Blk (((w.alloc (.cells #[.int .i64 0, .int .i64 0, .int .i64 0, .int .i64 0, .int .i64 0, .int .i64 0, .slice none 0 0] 121)).alloc (.cells #[.int .i64 0] 31)).alloc (.cells arr 9)) w.heap.size 121 #[.int .i64 0, .int .i64 0, .int .i64 0, .int .i64 0, .int .i64 0, .int .i64 0, .slice none 0 0] := ((Blk.new w 121 #[.int .i64 0, .int .i64 0, .int .i64 0, .int .i64 0, .int .i64 0, .int .i64 0, .slice none 0 0]).alloc _).alloc _
  have gE : Blk (((w.alloc (.cells #[.int .i64 0, .int .i64 0, .int .i64 0, .int .i64 0, .int .i64 0, .int .i64 0, .slice none 0 0] 121)).alloc (.cells #[.int .i64 0] 31)).alloc (.cells arr 9)) (w.heap.size + 1) 31 #[.int .i64 0] := (blk2 w _ 31 #[.int .i64 0]).alloc _
  have gL : Blk (((w.alloc (.cells #[.int .i64 0, .int .i64 0, .int .i64 0, .int .i64 0, .int .i64 0, .int .i64 0, .slice none 0 0] 121)).alloc (.cells #[.int .i64 0] 31)).alloc (.cells arr 9)) (w.heap.size + 1 + 1) 9 arr := by have h := Blk.new ((w.alloc (.cells #[.int .i64 0, .int .i64 0, .int .i64 0, .int .i64 0, .int .i64 0, .int .i64 0, .slice none 0 0] 121)).alloc (.cells #[.int .i64 0] 31)) 9 arr; simpa only [World.size_alloc] using h
  have hL2 := hlines _ (hE.below hB0).1
  simp only [World.size_alloc] at hL2
  clear hlines
  subst hz; clear harr hspl hcnt htz hend
  go_enter_defers Tryz.func141, Tryz.ntmps141
  go_wp2_with (first
    | (go_at_call 174; refine hL2.mono ?_; rintro e w4 ⟨rfl, rfl⟩; clear hL2)
    | (go_at_call 175; refine (insist_bad _).mono ?_; rintro e w5 ⟨rfl, rfl⟩))
  rename_i chain heq
  unfold BAD at heq
  cases heq
  refine leaves_cons (f := 173) (args := #[.pointer (some ⟨w.heap.size, 0, none⟩), .pointer (some ⟨w.heap.size + 1, 0, none⟩)]) (by simp) (by simp [go_sem]) ?_
  refine (parseCatch _ _ _ _ _ _ _ _ _ _ [] _ gT gE (by omega)).mono ?_
  rintro e u' w9 ⟨rfl, rfl, g0, g1, hB⟩
  have q0 := fun i => g0.cell i; have q1 := fun i => g1.cell i
  have hB9 := hB _ _ hB2 (Nat.le_refl _) (by omega)
  simp [Leaves, settle, results, Tryz.results141, go_sem, q0, q1, NONEB]
  exact hB9
set_option maxRecDepth 100000 in
set_option maxHeartbeats 3200000 in
theorem parse_b3 (s : ByteArray) (ls : List ByteArray) (N : Nat) (m : Int) (w : World) (hE : Env m w) (hs : s.size ≤ 1000) (hend : Lib.hasSuffix s.data.toList [10] = true) (htz : ByteArray.size ⟨(Lib.trimSuffix s.data.toList [10]).toArray⟩ ≤ 1000) (hcnt : countB ⟨(Lib.trimSuffix s.data.toList [10]).toArray⟩ ⟨#[10]⟩ = N) (hspl : splitB ⟨#[10]⟩ 0 N ⟨(Lib.trimSuffix s.data.toList [10]).toArray⟩ = ls) (hz : 1 ≤ N) (l0 : ByteArray) (h0 : ls[0]? = some l0) (hl0 : l0.size ≤ 1000) (hbad : ¬ WOk wStage l0) : Calls Tryz.prog 141 #[.string s] w fun e w' => e = NONEB ∧ Below w.heap.size w w' := by
  have hmf : ∀ (fn : Fn) (first cap : Array Value) (w : World), (Instr.makeFunc fn first cap).run Tryz.prog w = .ok (.func fn first cap) w := fun _ _ _ _ => rfl
  have hlines := fun wx hx => linesOf_ok s m wx hs hx hend htz
  rw [hcnt, hspl] at hlines
  obtain ⟨arr, harr⟩ : ∃ arr, arr = (ls.map Value.string).toArray := ⟨_, rfl⟩
  rw [← harr] at hlines
  have hB0 : Below w.heap.size w ((w.alloc (.cells #[.int .i64 0, .int .i64 0, .int .i64 0, .int .i64 0, .int .i64 0, .int .i64 0, .slice none 0 0] 121)).alloc (.cells #[.int .i64 0] 31)) := ((Below.refl _ w).alloc (Nat.le_refl _) _).alloc (by simp only [World.size_alloc]; omega) _
  have hB2 : Below w.heap.size w (((w.alloc (.cells #[.int .i64 0, .int .i64 0, .int .i64 0, .int .i64 0, .int .i64 0, .int .i64 0, .slice none 0 0] 121)).alloc (.cells #[.int .i64 0] 31)).alloc (.cells arr 9)) := hB0.alloc hB0.size _
  have gT : Blk (((w.alloc (.cells #[.int .i64 0, .int .i64 0, .int .i64 0, .int .i64 0, .int .i64 0, .int .i64 0, .slice none 0 0] 121)).alloc (.cells #[.int .i64 0] 31)).alloc (.cells arr 9)) w.heap.size 121 #[.int .i64 0, .int .i64 0, .int .i64 0, .int .i64 0, .int .i64 0, .int .i64 0, .slice none 0 0] := ((Blk.new w 121 #[.int .i64 0, .int .i64 0, .int .i64 0, .int .i64 0, .int .i64 0, .int .i64 0, .slice none 0 0]).alloc _).alloc _
  have gE : Blk (((w.alloc (.cells #[.int .i64 0, .int .i64 0, .int .i64 0, .int .i64 0, .int .i64 0, .int .i64 0, .slice none 0 0] 121)).alloc (.cells #[.int .i64 0] 31)).alloc (.cells arr 9)) (w.heap.size + 1) 31 #[.int .i64 0] := (blk2 w _ 31 #[.int .i64 0]).alloc _
  have gL : Blk (((w.alloc (.cells #[.int .i64 0, .int .i64 0, .int .i64 0, .int .i64 0, .int .i64 0, .int .i64 0, .slice none 0 0] 121)).alloc (.cells #[.int .i64 0] 31)).alloc (.cells arr 9)) (w.heap.size + 1 + 1) 9 arr := by have h := Blk.new ((w.alloc (.cells #[.int .i64 0, .int .i64 0, .int .i64 0, .int .i64 0, .int .i64 0, .int .i64 0, .slice none 0 0] 121)).alloc (.cells #[.int .i64 0] 31)) 9 arr; simpa only [World.size_alloc] using h
  have hL2 := hlines _ (hE.below hB0).1
  simp only [World.size_alloc] at hL2
  clear hlines
  have hge1 : (1 : Int) ≤ (N : Int) := by omega
  have hwr := i64_ok (N : Int) (by have := countB_le ⟨#[10]⟩ (Nat.le_refl 1) _ ⟨(Lib.trimSuffix s.data.toList [10]).toArray⟩ (Nat.le_refl _); omega)
  have hq0 : arr[0]? = some (.string l0) := by rw [harr, List.getElem?_toArray, List.getElem?_map, h0]; rfl
  have hcl0 := (gL.cell 0).trans hq0; have hlL := gL.lt
  clear harr hspl hcnt htz hend hq0 h0
  have hwb := words_bad 0 wStage l0 m _ word_stage hl0 (hE.below hB2).1 hbad
  go_enter_defers Tryz.func141, Tryz.ntmps141
  go_wp2_with (first
    | (go_at_call 174; refine hL2.mono ?_; rintro e w4 ⟨rfl, rfl⟩; clear hL2)
    | (go_at_call 175; refine (insist_ok _).mono ?_; rintro e w4 ⟨rfl, rfl⟩)
    | (go_at_call 177; refine hwb.mono ?_; rintro e w5 ⟨rfl, hb⟩; replace gT := gT.below hb gT.lt; replace gE := gE.below hb gE.lt; replace hB2 := hB2.trans (hb.mono hB2.size)))
  rename_i chain heq
  unfold BAD at heq
  cases heq
  refine leaves_cons (f := 173) (args := #[.pointer (some ⟨w.heap.size, 0, none⟩), .pointer (some ⟨w.heap.size + 1, 0, none⟩)]) (by simp) (by simp [go_sem]) ?_
  refine (parseCatch _ _ _ _ _ _ _ _ _ _ [] _ gT gE (by omega)).mono ?_
  rintro e u' w9 ⟨rfl, rfl, g0, g1, hB⟩
  have q0 := fun i => g0.cell i; have q1 := fun i => g1.cell i
  have hB9 := hB _ _ hB2 (Nat.le_refl _) (by omega)
  simp [Leaves, settle, results, Tryz.results141, go_sem, q0, q1, NONEB]
  exact hB9
set_option maxRecDepth 100000 in
set_option maxHeartbeats 3200000 in
theorem parse_b4 (s : ByteArray) (ls : List ByteArray) (N : Nat) (m : Int) (w : World) (hE : Env m w) (hs : s.size ≤ 1000) (hend : Lib.hasSuffix s.data.toList [10] = true) (htz : ByteArray.size ⟨(Lib.trimSuffix s.data.toList [10]).toArray⟩ ≤ 1000) (hcnt : countB ⟨(Lib.trimSuffix s.data.toList [10]).toArray⟩ ⟨#[10]⟩ = N) (hspl : splitB ⟨#[10]⟩ 0 N ⟨(Lib.trimSuffix s.data.toList [10]).toArray⟩ = ls) (hz : 1 ≤ N) (l0 : ByteArray) (h0 : ls[0]? = some l0) (hl0 : l0.size ≤ 1000) (hok : WOk wStage l0) (hbad : countB l0 ⟨#[32]⟩ ≠ 6 ∨ ∃ s ∈ (cutW l0).drop 1, ∀ a, a < 100 → s ≠ dS a) : Calls Tryz.prog 141 #[.string s] w fun e w' => e = NONEB ∧ Below w.heap.size w w' := by
  have hmf : ∀ (fn : Fn) (first cap : Array Value) (w : World), (Instr.makeFunc fn first cap).run Tryz.prog w = .ok (.func fn first cap) w := fun _ _ _ _ => rfl
  have hlines := fun wx hx => linesOf_ok s m wx hs hx hend htz
  rw [hcnt, hspl] at hlines
  obtain ⟨arr, harr⟩ : ∃ arr, arr = (ls.map Value.string).toArray := ⟨_, rfl⟩
  rw [← harr] at hlines
  have hB0 : Below w.heap.size w ((w.alloc (.cells #[.int .i64 0, .int .i64 0, .int .i64 0, .int .i64 0, .int .i64 0, .int .i64 0, .slice none 0 0] 121)).alloc (.cells #[.int .i64 0] 31)) := ((Below.refl _ w).alloc (Nat.le_refl _) _).alloc (by simp only [World.size_alloc]; omega) _
  have hB2 : Below w.heap.size w (((w.alloc (.cells #[.int .i64 0, .int .i64 0, .int .i64 0, .int .i64 0, .int .i64 0, .int .i64 0, .slice none 0 0] 121)).alloc (.cells #[.int .i64 0] 31)).alloc (.cells arr 9)) := hB0.alloc hB0.size _
  have gT : Blk (((w.alloc (.cells #[.int .i64 0, .int .i64 0, .int .i64 0, .int .i64 0, .int .i64 0, .int .i64 0, .slice none 0 0] 121)).alloc (.cells #[.int .i64 0] 31)).alloc (.cells arr 9)) w.heap.size 121 #[.int .i64 0, .int .i64 0, .int .i64 0, .int .i64 0, .int .i64 0, .int .i64 0, .slice none 0 0] := ((Blk.new w 121 #[.int .i64 0, .int .i64 0, .int .i64 0, .int .i64 0, .int .i64 0, .int .i64 0, .slice none 0 0]).alloc _).alloc _
  have gE : Blk (((w.alloc (.cells #[.int .i64 0, .int .i64 0, .int .i64 0, .int .i64 0, .int .i64 0, .int .i64 0, .slice none 0 0] 121)).alloc (.cells #[.int .i64 0] 31)).alloc (.cells arr 9)) (w.heap.size + 1) 31 #[.int .i64 0] := (blk2 w _ 31 #[.int .i64 0]).alloc _
  have gL : Blk (((w.alloc (.cells #[.int .i64 0, .int .i64 0, .int .i64 0, .int .i64 0, .int .i64 0, .int .i64 0, .slice none 0 0] 121)).alloc (.cells #[.int .i64 0] 31)).alloc (.cells arr 9)) (w.heap.size + 1 + 1) 9 arr := by have h := Blk.new ((w.alloc (.cells #[.int .i64 0, .int .i64 0, .int .i64 0, .int .i64 0, .int .i64 0, .int .i64 0, .slice none 0 0] 121)).alloc (.cells #[.int .i64 0] 31)) 9 arr; simpa only [World.size_alloc] using h
  have hL2 := hlines _ (hE.below hB0).1
  simp only [World.size_alloc] at hL2
  clear hlines
  have hge1 : (1 : Int) ≤ (N : Int) := by omega
  have hwr := i64_ok (N : Int) (by have := countB_le ⟨#[10]⟩ (Nat.le_refl 1) _ ⟨(Lib.trimSuffix s.data.toList [10]).toArray⟩ (Nat.le_refl _); omega)
  have hq0 : arr[0]? = some (.string l0) := by rw [harr, List.getElem?_toArray, List.getElem?_map, h0]; rfl
  have hcl0 := (gL.cell 0).trans hq0; have hlL := gL.lt
  clear harr hspl hcnt htz hend hq0 h0
  have hwb := words_good 0 wStage l0 m _ word_stage hl0 (hE.below hB2).1 hok
  have hps := fun (A : Option Addr) (cap : Nat) wx hx => parseStage_bad A (countB l0 ⟨#[32]⟩) cap ((cutW l0).drop 1) wx hx hbad
  generalize countB l0 ⟨#[32]⟩ = n0 at *
  generalize (cutW l0).drop 1 = ws0 at *
  clear hok hbad
  go_enter_defers Tryz.func141, Tryz.ntmps141
  go_wp2_with (first
    | (go_at_call 174; refine hL2.mono ?_; rintro e w4 ⟨rfl, rfl⟩; clear hL2)
    | (go_at_call 175; refine (insist_ok _).mono ?_; rintro e w4 ⟨rfl, rfl⟩)
    | (go_at_call 177; refine hwb.mono ?_; rintro e w5 ⟨v4, rfl, own4, hb⟩; obtain ⟨A4, c4, rfl⟩ := own_slice own4; have hr4 := Rd.of_own own4; clear own4; replace gT := gT.below hb gT.lt; replace gE := gE.below hb gE.lt; replace hB2 := hB2.trans (hb.mono hB2.size); clear hb hcl0 hlL)
    | (go_at_call 176; refine (hps A4 c4 _ hr4).mono ?_; rintro e w5 ⟨rfl, hb⟩; replace gT := gT.below hb gT.lt; replace gE := gE.below hb gE.lt; replace hB2 := hB2.trans (hb.mono hB2.size)))
  rename_i chain heq
  unfold BAD at heq
  cases heq
  refine leaves_cons (f := 173) (args := #[.pointer (some ⟨w.heap.size, 0, none⟩), .pointer (some ⟨w.heap.size + 1, 0, none⟩)]) (by simp) (by simp [go_sem]) ?_
  refine (parseCatch _ _ _ _ _ _ _ _ _ _ [] _ gT gE (by omega)).mono ?_
  rintro e u' w9 ⟨rfl, rfl, g0, g1, hB⟩
  have q0 := fun i => g0.cell i; have q1 := fun i => g1.cell i
  have hB9 := hB _ _ hB2 (Nat.le_refl _) (by omega)
  simp [Leaves, settle, results, Tryz.results141, go_sem, q0, q1, NONEB]
  exact hB9
end
section
open Go.RowKit Go.Lib
/-- What stands where a text is found to be none. -/
def PanR (w0 w : World) : Prop := (∃ z0 z1 z2 z3 z4 z5 z6 : Value, Blk w w0.heap.size 121 #[z0, z1, z2, z3, z4, z5, z6]) ∧ (∃ y : Value, Blk w (w0.heap.size + 1) 31 #[y]) ∧ Below w0.heap.size w0 w
def PanA (a0 : Act) (w0 : World) (ch : List PanicEntry) (a : Act) (w : World) : Prop := ch = [{ v := .iface 222 (.agg #[]), recovered := false }] ∧ a.tmps[2]? = a0.tmps[2]? ∧ a.tmps[3]? = a0.tmps[3]? ∧ a.defers = a0.defers ∧ PanR w0 w
theorem PanA.put {a0 : Act} {w0 : World} {ch : List PanicEntry} {a : Act} {w : World} {d : Nat} {v : Value} (hd : 4 ≤ d) (h : PanA a0 w0 ch (a.put (some d) v) w) : PanA a0 w0 ch a w := by
  obtain ⟨h1, h2, h3, h4, h5⟩ := h
  refine ⟨h1, ?_, ?_, h4, h5⟩
  · rw [← h2]
    show _ = (a.tmps.setIfInBounds d v)[2]?
    rw [Array.getElem?_setIfInBounds_ne (by omega)]
  · rw [← h3]
    show _ = (a.tmps.setIfInBounds d v)[3]?
    rw [Array.getElem?_setIfInBounds_ne (by omega)]
theorem wp_panicD {P : Program} {c : Code} {Q : Exit → Act → World → Prop} {a : Act} {w : World} (w0 : World) (hq : ∀ (a' : Act) (w' : World), PanA a w0 [{ v := .iface 222 (.agg #[]), recovered := false }] a' w' → Q (.panic [{ v := .iface 222 (.agg #[]), recovered := false }]) a' w')
    (h : c.wp P (fun ex a' w' => match ex with | .panic ch => PanA a w0 ch a' w' | ex => Q ex a' w') a w) : c.wp P Q a w := by
  refine Code.wp_mono (fun e a' w' hx => ?_) h
  cases e <;> first | exact hx | (obtain ⟨rfl, h2⟩ := hx; exact hq a' w' ⟨rfl, h2⟩)
theorem parse_leaves (w0 w : World) (tm : Array Value) (h2 : tm[2]? = some (.pointer (some ⟨w0.heap.size, 0, none⟩))) (h3 : tm[3]? = some (.pointer (some ⟨w0.heap.size + 1, 0, none⟩))) (hR : PanR w0 w) :
    bodyPostD Tryz.prog Tryz.f141 (fun e w' => e = NONEB ∧ Below w0.heap.size w0 w') (Exit.panic [{ v := .iface 222 (.agg #[]), recovered := false }]) { tmps := tm, defers := [{ target := Target.fn (.func 173) #[.pointer (some ⟨w0.heap.size, 0, none⟩), .pointer (some ⟨w0.heap.size + 1, 0, none⟩)], args := #[] }] } w := by
  obtain ⟨⟨z0, z1, z2, z3, z4, z5, z6, gT⟩, ⟨y, gE⟩, hB2⟩ := hR
  refine leaves_cons (f := 173) (args := #[.pointer (some ⟨w0.heap.size, 0, none⟩), .pointer (some ⟨w0.heap.size + 1, 0, none⟩)]) (by simp) (by simp [go_sem]) ?_
  refine (parseCatch _ _ _ _ _ _ _ _ _ _ [] _ gT gE (by omega)).mono ?_
  rintro e u' w9 ⟨rfl, rfl, g0, g1, hB⟩
  have q0 := fun i => g0.cell i; have q1 := fun i => g1.cell i
  have hB9 := hB _ _ hB2 (Nat.le_refl _) (by omega)
  simp [Leaves, settle, results, Tryz.results141, go_sem, q0, q1, NONEB, h2, h3]
  exact hB9
set_option maxRecDepth 100000 in
set_option maxHeartbeats 25600000 in
theorem parse_b5 (a0 a1 a2 a3 a4 a5 : Nat) (ha : ∀ a ∈ [a0, a1, a2, a3, a4, a5], a < 100) (K : Nat) (s : ByteArray) (ls : List ByteArray) (N : Nat) (m : Int) (w : World) (hE : Env m w) (hs : s.size ≤ 1000) (hend : Lib.hasSuffix s.data.toList [10] = true) (htz : ByteArray.size ⟨(Lib.trimSuffix s.data.toList [10]).toArray⟩ ≤ 1000) (hcnt : countB ⟨(Lib.trimSuffix s.data.toList [10]).toArray⟩ ⟨#[10]⟩ = N) (hspl : splitB ⟨#[10]⟩ 0 N ⟨(Lib.trimSuffix s.data.toList [10]).toArray⟩ = ls) (hNK : N = K + 1) (l0 : ByteArray) (h0 : ls[0]? = some l0) (hl0 : l0.size ≤ 1000) (hok : WOk wStage l0) (hn6 : countB l0 ⟨#[32]⟩ = 6) (hw6 : (cutW l0).drop 1 = [a0, a1, a2, a3, a4, a5].map dS)
    (hsz : ∀ l ∈ ls, l.size ≤ 1000) (le : ByteArray) (hle : ls[K + 1]? = some le) (S : Nat) (hS : sumA (ls.take (K + 1)) 0 0 = S) (hbad : (∃ j l, j < K ∧ ls[1 + j]? = some l ∧ ¬ WOk wFigure l) ∨ le ≠ lineS wEnd [dgt3 (S % 173)]) : Calls Tryz.prog 141 #[.string s] w fun e w' => e = NONEB ∧ Below w.heap.size w w' := by
  obtain ⟨i0, hi, hz0, hz1', hz2'⟩ := info_parts info26
  have hlen : ls.length = N + 1 := by rw [← hspl, ← hcnt]; exact countB_split 10 _
  have hN : N ≤ 1000 := by have := countB_le ⟨#[10]⟩ (Nat.le_refl 1) _ ⟨(Lib.trimSuffix s.data.toList [10]).toArray⟩ (Nat.le_refl _); omega
  have hmf : ∀ (fn : Fn) (first cap : Array Value) (w : World), (Instr.makeFunc fn first cap).run Tryz.prog w = .ok (.func fn first cap) w := fun _ _ _ _ => rfl
  have hlines := fun wx hx => linesOf_ok s m wx hs hx hend htz
  rw [hcnt, hspl] at hlines
  obtain ⟨arr, harr⟩ : ∃ arr, arr = (ls.map Value.string).toArray := ⟨_, rfl⟩
  rw [← harr] at hlines
  have hB0 : Below w.heap.size w ((w.alloc (.cells #[.int .i64 0, .int .i64 0, .int .i64 0, .int .i64 0, .int .i64 0, .int .i64 0, .slice none 0 0] 121)).alloc (.cells #[.int .i64 0] 31)) := ((Below.refl _ w).alloc (Nat.le_refl _) _).alloc (by simp only [World.size_alloc]; omega) _
  have hB2 : Below w.heap.size w (((w.alloc (.cells #[.int .i64 0, .int .i64 0, .int .i64 0, .int .i64 0, .int .i64 0, .int .i64 0, .slice none 0 0] 121)).alloc (.cells #[.int .i64 0] 31)).alloc (.cells arr 9)) := hB0.alloc hB0.size _
  have gT : Blk (((w.alloc (.cells #[.int .i64 0, .int .i64 0, .int .i64 0, .int .i64 0, .int .i64 0, .int .i64 0, .slice none 0 0] 121)).alloc (.cells #[.int .i64 0] 31)).alloc (.cells arr 9)) w.heap.size 121 #[.int .i64 0, .int .i64 0, .int .i64 0, .int .i64 0, .int .i64 0, .int .i64 0, .slice none 0 0] := ((Blk.new w 121 #[.int .i64 0, .int .i64 0, .int .i64 0, .int .i64 0, .int .i64 0, .int .i64 0, .slice none 0 0]).alloc _).alloc _
  have gE : Blk (((w.alloc (.cells #[.int .i64 0, .int .i64 0, .int .i64 0, .int .i64 0, .int .i64 0, .int .i64 0, .slice none 0 0] 121)).alloc (.cells #[.int .i64 0] 31)).alloc (.cells arr 9)) (w.heap.size + 1) 31 #[.int .i64 0] := (blk2 w _ 31 #[.int .i64 0]).alloc _
  have gL : Blk (((w.alloc (.cells #[.int .i64 0, .int .i64 0, .int .i64 0, .int .i64 0, .int .i64 0, .int .i64 0, .slice none 0 0] 121)).alloc (.cells #[.int .i64 0] 31)).alloc (.cells arr 9)) (w.heap.size + 1 + 1) 9 arr := by have h := Blk.new ((w.alloc (.cells #[.int .i64 0, .int .i64 0, .int .i64 0, .int .i64 0, .int .i64 0, .int .i64 0, .slice none 0 0] 121)).alloc (.cells #[.int .i64 0] 31)) 9 arr; simpa only [World.size_alloc] using h
  have hL2 := hlines _ (hE.below hB0).1
  simp only [World.size_alloc] at hL2
  clear hlines
  subst hNK
  have hwr := i64_ok ((K : Int) + 1) (by omega)
  have hge1 : (1 : Int) ≤ (K : Int) + 1 := by omega
  have hq0 : arr[0]? = some (.string l0) := by rw [harr, List.getElem?_toArray, List.getElem?_map, h0]; rfl
  have hqf : ∀ k (hk : k < K), ∃ l, ls[1 + k]? = some l ∧ arr[1 + k]? = some (.string l) ∧ l.size ≤ 1000 := fun k hk => by
    refine ⟨ls[1 + k]'(by omega), List.getElem?_eq_getElem (by omega), ?_, hsz _ (List.getElem_mem _)⟩
    rw [harr, List.getElem?_toArray, List.getElem?_map, List.getElem?_eq_getElem (by omega)]; rfl
  have hql : arr[K + 1]? = some (.string le) := by rw [harr, List.getElem?_toArray, List.getElem?_map, hle]; rfl
  have hwg := words_good 0 wStage l0 m _ word_stage hl0 (hE.below hB2).1 hok
  rw [hn6, hw6] at hwg
  have hps := fun (A : Option Addr) (cap : Nat) wx hx => parseStage_ok a0 a1 a2 a3 a4 a5 A cap (dS a0) (dS a1) (dS a2) (dS a3) (dS a4) (dS a5) wx hx (parseNum_any a0 (ha _ (by simp))) (parseNum_any a1 (ha _ (by simp))) (parseNum_any a2 (ha _ (by simp))) (parseNum_any a3 (ha _ (by simp))) (parseNum_any a4 (ha _ (by simp))) (parseNum_any a5 (ha _ (by simp)))
  have hend2 := fun (A : Option Addr) (cap : Nat) wx hr hx => endOf_any A (K + 1) cap (ls.take (K + 1)) S m wx (by omega) (fun r hr => Nat.le_trans (hsz r (List.mem_of_mem_take hr)) (by omega)) hr hS hx
  have hsl1 := run_slice_cut (P := Tryz.prog) 24 9 1 Tryz.underlying24 (fun _ => by kernel_rfl) (some ⟨w.heap.size + 1 + 1, 0, none⟩) (K + 1 + 1) (K + 1 + 1) .i64 .i64 1 (K + 1) (by omega) (by omega)
  rw [show cutA (some ⟨w.heap.size + 1 + 1, 0, none⟩) (K + 1 + 1) 1 1 = some ⟨w.heap.size + 1 + 1, 1, none⟩ by unfold cutA; rw [if_neg (by omega)]; rfl, show K + 1 - 1 = K by omega, show K + 1 + 1 - 1 = K + 1 by omega] at hsl1
  have hsl2 := run_slice_hi (P := Tryz.prog) 24 9 1 Tryz.underlying24 (fun _ => by kernel_rfl) (w.heap.size + 1 + 1) (K + 1 + 1) (K + 1 + 1) .i64 (K + 1) (by omega) (by omega)
  have hRd : ∀ wx, Blk wx (w.heap.size + 1 + 1) 9 arr → Rd wx wx.heap.size 1 (some ⟨w.heap.size + 1 + 1, 0, none⟩) (K + 1) ((ls.take (K + 1)).map Value.string) := fun wx hx => by
    have e : ls = ls.take (K + 1) ++ [le] := by
      rw [← List.take_append_drop (K + 1) ls]
      congr 1
      · rw [List.take_append_drop]
      · rw [List.drop_eq_getElem_cons (by omega), List.drop_of_length_le (by omega)]
        have := List.getElem?_eq_some_iff.1 hle
        rw [← this.2]
    rw [harr, e] at hx
    have h := Rd_init hx hx.lt
    rwa [List.length_take, Nat.min_eq_left (by omega)] at h
  have HW0 := Lib.hid hwg; have HPS := Lib.hid hps; have HEN := Lib.hid hend2; have HQ0 := Lib.hid hq0; have HQF := Lib.hid hqf; have HQL := Lib.hid hql; have HRD := Lib.hid hRd; have HBD := Lib.hid hbad
  clear hwg hps hend2 hq0 hqf hql hRd harr h0 hle hspl hcnt htz hend hsz hS hlen hs ha hok hn6 hw6 hbad hl0
  have hcl0 := (gL.cell 0).trans HQ0.out; have hlL := gL.lt
  go_enter_defers Tryz.func141, Tryz.ntmps141
  go_upto_region 6 with (first
    | (go_at_call 174; refine hL2.mono ?_; rintro e w4 ⟨rfl, rfl⟩; clear hL2)
    | (go_at_call 175; refine (insist_ok _).mono ?_; rintro e w4 ⟨rfl, rfl⟩)
    | (go_at_call 177; refine HW0.out.mono ?_; rintro e w4 ⟨v4, rfl, own4, hb⟩; obtain ⟨A4, c4, rfl⟩ := own_slice own4; have hr4 := Rd.of_own own4; clear own4; replace gT := gT.below hb gT.lt; replace gE := gE.below hb gE.lt; replace gL := gL.below hb gL.lt; replace hB2 := hB2.trans (hb.mono hB2.size); clear hb hcl0 hlL)
    | (go_at_call 176; refine (HPS.out A4 c4 _ hr4).mono ?_; rintro e w5 ⟨rfl, hb⟩; clear hr4; replace gT := gT.below hb gT.lt; replace gE := gE.below hb gE.lt; replace gL := gL.below hb gL.lt; replace hB2 := hB2.trans (hb.mono hB2.size); clear hb; have hqT := fun i => gT.cell i; have hfT := fun i => gT.frozen i; have hlT := gT.lt))
  clear hqT hfT hlT HPS HW0
  replace gT := gT.set_ 0 (.int .i64 a0)
  replace gE := gE.far (p := ⟨w.heap.size, 0, none⟩) (show w.heap.size + 1 ≠ w.heap.size by omega) (.int .i64 a0)
  replace gL := gL.far (p := ⟨w.heap.size, 0, none⟩) (show w.heap.size + 1 + 1 ≠ w.heap.size by omega) (.int .i64 a0)
  replace hB2 := hB2.setCell (p := ⟨w.heap.size, 0, none⟩) (Nat.le_refl w.heap.size) (.int .i64 a0)
  replace gT := gT.set_ 1 (.int .i64 a1)
  replace gE := gE.far (p := ⟨w.heap.size, 1, none⟩) (show w.heap.size + 1 ≠ w.heap.size by omega) (.int .i64 a1)
  replace gL := gL.far (p := ⟨w.heap.size, 1, none⟩) (show w.heap.size + 1 + 1 ≠ w.heap.size by omega) (.int .i64 a1)
  replace hB2 := hB2.setCell (p := ⟨w.heap.size, 1, none⟩) (Nat.le_refl w.heap.size) (.int .i64 a1)
  replace gT := gT.set_ 2 (.int .i64 a2)
  replace gE := gE.far (p := ⟨w.heap.size, 2, none⟩) (show w.heap.size + 1 ≠ w.heap.size by omega) (.int .i64 a2)
  replace gL := gL.far (p := ⟨w.heap.size, 2, none⟩) (show w.heap.size + 1 + 1 ≠ w.heap.size by omega) (.int .i64 a2)
  replace hB2 := hB2.setCell (p := ⟨w.heap.size, 2, none⟩) (Nat.le_refl w.heap.size) (.int .i64 a2)
  replace gT := gT.set_ 3 (.int .i64 a3)
  replace gE := gE.far (p := ⟨w.heap.size, 3, none⟩) (show w.heap.size + 1 ≠ w.heap.size by omega) (.int .i64 a3)
  replace gL := gL.far (p := ⟨w.heap.size, 3, none⟩) (show w.heap.size + 1 + 1 ≠ w.heap.size by omega) (.int .i64 a3)
  replace hB2 := hB2.setCell (p := ⟨w.heap.size, 3, none⟩) (Nat.le_refl w.heap.size) (.int .i64 a3)
  replace gT := gT.set_ 4 (.int .i64 a4)
  replace gE := gE.far (p := ⟨w.heap.size, 4, none⟩) (show w.heap.size + 1 ≠ w.heap.size by omega) (.int .i64 a4)
  replace gL := gL.far (p := ⟨w.heap.size, 4, none⟩) (show w.heap.size + 1 + 1 ≠ w.heap.size by omega) (.int .i64 a4)
  replace hB2 := hB2.setCell (p := ⟨w.heap.size, 4, none⟩) (Nat.le_refl w.heap.size) (.int .i64 a4)
  replace gT := gT.set_ 5 (.int .i64 a5)
  replace gE := gE.far (p := ⟨w.heap.size, 5, none⟩) (show w.heap.size + 1 ≠ w.heap.size by omega) (.int .i64 a5)
  replace gL := gL.far (p := ⟨w.heap.size, 5, none⟩) (show w.heap.size + 1 + 1 ≠ w.heap.size by omega) (.int .i64 a5)
  replace hB2 := hB2.setCell (p := ⟨w.heap.size, 5, none⟩) (Nat.le_refl w.heap.size) (.int .i64 a5)
  replace gT : Blk ((((((w5.setCell ⟨w.heap.size, 0, none⟩ (.int .i64 a0)).setCell ⟨w.heap.size, 1, none⟩ (.int .i64 a1)).setCell ⟨w.heap.size, 2, none⟩ (.int .i64 a2)).setCell ⟨w.heap.size, 3, none⟩ (.int .i64 a3)).setCell ⟨w.heap.size, 4, none⟩ (.int .i64 a4)).setCell ⟨w.heap.size, 5, none⟩ (.int .i64 a5)) w.heap.size 121 #[.int .i64 a0, .int .i64 a1, .int .i64 a2, .int .i64 a3, .int .i64 a4, .int .i64 a5, .slice none 0 0] := gT
  generalize ((((((w5.setCell ⟨w.heap.size, 0, none⟩ (.int .i64 a0)).setCell ⟨w.heap.size, 1, none⟩ (.int .i64 a1)).setCell ⟨w.heap.size, 2, none⟩ (.int .i64 a2)).setCell ⟨w.heap.size, 3, none⟩ (.int .i64 a3)).setCell ⟨w.heap.size, 4, none⟩ (.int .i64 a4)).setCell ⟨w.heap.size, 5, none⟩ (.int .i64 a5)) = w6 at *
  go_wp2_with (fail)
  have hown0 : w6.ownsRow (w.heap.size + 1 + 1) 26 1 (.slice none 0 0) 0 [] := World.ownsRow_nil _ _ _ _
  go_loopg [27] K (fun g i wr => ∃ (k : Nat) (v0 : Value) (vs : List Value), g = K - k ∧ k ≤ K ∧ i = .int .i64 k ∧ wr.ownsRow (w.heap.size + 1 + 1) 26 1 v0 k vs ∧ (∀ j l, j < k → ls[1 + j]? = some l → WOk wFigure l) ∧ Blk wr w.heap.size 121 #[.int .i64 a0, .int .i64 a1, .int .i64 a2, .int .i64 a3, .int .i64 a4, .int .i64 a5, v0] ∧ Blk wr (w.heap.size + 1) 31 #[.int .i64 0] ∧ Blk wr (w.heap.size + 1 + 1) 9 arr ∧ Below w.heap.size w wr)
  case atStart => exact ⟨0, _, [], rfl, Nat.zero_le _, rfl, hown0, fun j _ h => absurd h (Nat.not_lt_zero _), gT, gE, gL, hB2⟩
  case round =>
    clear gT gE gL hB2 hown0
    obtain ⟨k, v0, vs, hg, hk, rfl, hown, hall, gT, gE, gL, hB⟩ := hrel
    obtain ⟨va, vc, rfl⟩ := own_slice hown
    have HG := Lib.hid hg; have HA := Lib.hid hall; clear hg hall
    by_cases hlt : k < K
    · have hlti : (k : Int) < K := by omega
      obtain ⟨lk, hlk, hak, hszk⟩ := HQF.out k hlt
      have hck := (gL.cell (1 + k)).trans hak
      have HLK := Lib.hid hlk; clear hlk hak
      have hlL := gL.lt
      by_cases hwk : WOk wFigure lk
      · have hWF := fun wx hx => words_good 1 wFigure lk m wx word_figure hszk hx hwk
        have HWK := Lib.hid hWF; have HWO := Lib.hid hwk; clear hWF hwk hszk
        generalize countB lk ⟨#[32]⟩ = rn at *
        generalize (cutW lk).drop 1 = rows at *
        go_upto_region 9 with (fail)
        refine wp_nopanic ?_
        rename World => WR
        refine wp_region_G (fun w' => Blk w' w.heap.size 121 #[.int .i64 a0, .int .i64 a1, .int .i64 a2, .int .i64 a3, .int .i64 a4, .int .i64 a5, .slice va k vc]) 8 (by kernel_rfl) ?_
        replace gT := gT.drew; replace gE := gE.drew; replace gL := gL.drew; replace hB := hB.drew; replace hown := hown.drew
        clear hck hlL
        generalize WR.drew = WD at *
        have hlLD : w.heap.size + 1 + 1 ≤ WD.heap.size := Nat.le_of_lt gL.lt
        have hTT := gT
        refine wpG_take (i := 0) (v := ?v7_0) rfl (by kernel_rfl) (by kernel_rfl) (by kernel_rfl) (by kernel_rfl) (fun _ _ _ h => h) (Or.inl ⟨by rfl, ?hy7_0⟩) hTT ?rest7_0
        case hy7_0 => intro wq hSw; have hq1 := fun i => hSw.cell i; go_simp <;> with_reducible rfl
        simp only [List.getElem_toArray, List.getElem_cons_zero, List.getElem_cons_succ, Act.put, List.setIfInBounds_toArray, List.set_cons_zero, List.set_cons_succ]
        refine wpG_take (i := 1) (v := ?v7_1) rfl (by kernel_rfl) (by kernel_rfl) (by kernel_rfl) (by kernel_rfl) (fun _ _ _ h => h) (Or.inl ⟨by rfl, ?hy7_1⟩) hTT ?rest7_1
        case hy7_1 => intro wq hSw; have hq1 := fun i => hSw.cell i; go_simp <;> with_reducible rfl
        simp only [List.getElem_toArray, List.getElem_cons_zero, List.getElem_cons_succ, Act.put, List.setIfInBounds_toArray, List.set_cons_zero, List.set_cons_succ]
        refine wpG_take (i := 2) (v := ?v7_2) rfl (by kernel_rfl) (by kernel_rfl) (by kernel_rfl) (by kernel_rfl) (fun _ _ _ h => h) (Or.inl ⟨by rfl, ?hy7_2⟩) hTT ?rest7_2
        case hy7_2 => intro wq hSw; have hq1 := fun i => hSw.cell i; go_simp <;> with_reducible rfl
        simp only [List.getElem_toArray, List.getElem_cons_zero, List.getElem_cons_succ, Act.put, List.setIfInBounds_toArray, List.set_cons_zero, List.set_cons_succ]
        refine wpG_one (i := 3) rfl (by kernel_rfl) (fun K hK => ?_)
        go_simp
        refine (HWK.out _ (hE.below hB).1).mono ?_; rintro e w7 ⟨v4, rfl, own4, hb4⟩
        replace gT := gT.below hb4 gT.lt; replace gE := gE.below hb4 gE.lt; replace gL := gL.below hb4 gL.lt; replace hown := ownsRow_below' hown hb4
        replace own4 := own_mono own4 hlLD
        obtain ⟨g4, c4, rfl⟩ := own_slice own4
        replace hB := hB.trans (hb4.mono hB.size); clear hb4 hTT; have hTT := gT; dsimp only
        refine hK _ _ (.inr hTT) ?_
        clear hK K
        try simp only [List.getElem_toArray, List.getElem_cons_zero, List.getElem_cons_succ, Act.put, List.setIfInBounds_toArray, List.set_cons_zero, List.set_cons_succ]
        refine wpG_take (i := 4) (v := ?v7_4) rfl (by kernel_rfl) (by kernel_rfl) (by kernel_rfl) (by kernel_rfl) (fun _ _ _ h => h) (Or.inl ⟨by rfl, ?hy7_4⟩) hTT ?rest7_4
        case hy7_4 => intro wq hSw; have hq1 := fun i => hSw.cell i; go_simp <;> with_reducible rfl
        simp only [List.getElem_toArray, List.getElem_cons_zero, List.getElem_cons_succ, Act.put, List.setIfInBounds_toArray, List.set_cons_zero, List.set_cons_succ]
        refine wpG_one (i := 5) rfl (by kernel_rfl) (fun K hK => ?_)
        go_simp
        replace gT := gT.alloc (.cells #[.slice g4 rn c4] 26); replace gE := gE.alloc (.cells #[.slice g4 rn c4] 26); replace gL := gL.alloc (.cells #[.slice g4 rn c4] 26); replace hown := hown.alloc (.cells #[.slice g4 rn c4] 26); replace own4 := own4.alloc (.cells #[.slice g4 rn c4] 26); replace hB := hB.alloc hB.size (.cells #[.slice g4 rn c4] 26); clear hTT; have hTT := gT
        refine hK _ _ (.inr hTT) ?_
        clear hK K
        try simp only [List.getElem_toArray, List.getElem_cons_zero, List.getElem_cons_succ, Act.put, List.setIfInBounds_toArray, List.set_cons_zero, List.set_cons_succ]
        refine wpG_one (i := 6) rfl (by kernel_rfl) (fun K hK => ?_)
        rw [if_pos (by rfl)]; refine wp_append_any _ _ _ 51 rfl (w.heap.size + 1 + 1) 26 i0 (.agg #[.slice none 0 0]) 1 24 Tryz.underlying51 hi hz0 hz1' hz2' rfl (by decide) _ k vs rfl hown (w7.heap.size + 1) (some ⟨w7.heap.size, 0, none⟩) 1 1 [.slice g4 rn c4] rfl (Rd.blkN (Blk.new _ _ _) rfl (Nat.lt_succ_self _)).reads (by simp [Value.oneCell']) (by unfold maxLen; omega) (by omega) (Nat.le_of_lt gL.lt) (fun v8 w8 hown8 hgrow hob => ?_)
        replace gT := gT.kept_own hown (by decide) hgrow; replace gE := gE.kept_own hown (by decide) hgrow; replace gL := gL.kept_own hown (by decide) hgrow
        replace hB := hB.grown hgrow hB.size (fun g hg => Nat.le_trans (by omega) (hown.lt g hg).1)
        obtain ⟨v8A, v8c, rfl⟩ := own_slice hown8
        clear hTT hown own4; have hTT := gT; have hqT := fun i => gT.cell i; have hfT := fun i => gT.frozen i; have hlT := gT.lt
        refine hK _ _ (.inr hTT) ?_
        clear hK K
        try simp only [List.getElem_toArray, List.getElem_cons_zero, List.getElem_cons_succ, Act.put, List.setIfInBounds_toArray, List.set_cons_zero, List.set_cons_succ]
        refine wpG_take (i := 7) (v := ?v7_7) rfl (by kernel_rfl) (by kernel_rfl) (by kernel_rfl) (by kernel_rfl) (fun _ _ _ h => h) (Or.inl ⟨by rfl, ?hy7_7⟩) hTT ?rest7_7
        case hy7_7 => intro wq hSw; have hq1 := fun i => hSw.cell i; go_simp <;> with_reducible rfl
        simp only [List.getElem_toArray, List.getElem_cons_zero, List.getElem_cons_succ, Act.put, List.setIfInBounds_toArray, List.set_cons_zero, List.set_cons_succ]
        refine wpG_one (i := 8) rfl (by kernel_rfl) (fun K hK => ?_)
        go_simp
        refine hK _ _ (.inl rfl) ?_
        clear hK K
        try simp only [List.getElem_toArray, List.getElem_cons_zero, List.getElem_cons_succ, Act.put, List.setIfInBounds_toArray, List.set_cons_zero, List.set_cons_succ]
        refine wpG_done (by kernel_rfl) ?_ _
        dsimp only
        clear hTT hqT hfT hlT
        replace gT := gT.set_ 6 (.slice v8A (k + 1) v8c)
        replace gE := gE.far (p := ⟨w.heap.size, 6, none⟩) (show w.heap.size + 1 ≠ w.heap.size by omega) (.slice v8A (k + 1) v8c)
        replace gL := gL.far (p := ⟨w.heap.size, 6, none⟩) (show w.heap.size + 1 + 1 ≠ w.heap.size by omega) (.slice v8A (k + 1) v8c)
        replace hB := hB.setCell (p := ⟨w.heap.size, 6, none⟩) (Nat.le_refl w.heap.size) (.slice v8A (k + 1) v8c)
        replace hown8 := ownsRow_setCell_below hown8 (a := ⟨w.heap.size, 6, none⟩) (show w.heap.size < w.heap.size + 1 + 1 by omega) (.slice v8A (k + 1) v8c)
        generalize w8.setCell ⟨w.heap.size, 6, none⟩ (.slice v8A (k + 1) v8c) = w9 at *
        go_wp2_with (fail)
        go_roundg (K - (k + 1))
        case measure => rw [HG.out]; omega
        case rel => exact ⟨k + 1, _, _, rfl, by omega, by go_num, hown8, (fun j l hj hl => by
          by_cases hjk : j < k
          · exact HA.out j l hjk hl
          · obtain rfl : j = k := by omega
            rw [HLK.out] at hl
            cases hl
            exact HWO.out), by simpa using gT, gE, gL, hB⟩
      · have hWF := fun wx hx => words_bad 1 wFigure lk m wx word_figure hszk hx hwk
        have HWK := Lib.hid hWF; clear hWF hwk hszk HLK HA HG
        go_upto_region 9 with (fail)
        rename World => WR
        refine wp_panicD w (fun a' w' h => by
        obtain ⟨tm, df⟩ := a'
        obtain ⟨-, h2, h3, h4, h5⟩ := h
        simp only at h4
        subst h4
        exact parse_leaves w w' tm h2 h3 h5) ?_
        refine wp_region_G (fun w' => Blk w' w.heap.size 121 #[.int .i64 a0, .int .i64 a1, .int .i64 a2, .int .i64 a3, .int .i64 a4, .int .i64 a5, .slice va k vc]) 9 (by kernel_rfl) ?_
        replace gT := gT.drew; replace gE := gE.drew; replace gL := gL.drew; replace hB := hB.drew
        clear hck hlL
        generalize WR.drew = WD at *
        have hTT := gT
        refine wpG_take2 (i := 0) (v := ?vb9_0) rfl (by kernel_rfl) (by kernel_rfl) (by kernel_rfl) rfl (fun _ _ _ h => PanA.put (by decide) h) (Or.inl ⟨by rfl, ?hyb9_0⟩) hTT ?restb9_0
        case hyb9_0 => intro wq hSw; have hq1 := fun i => hSw.cell i; go_simp <;> with_reducible rfl
        simp only [List.getElem_toArray, List.getElem_cons_zero, List.getElem_cons_succ, Act.put, List.setIfInBounds_toArray, List.set_cons_zero, List.set_cons_succ]
        refine wpG_take2 (i := 1) (v := ?vb9_1) rfl (by kernel_rfl) (by kernel_rfl) (by kernel_rfl) rfl (fun _ _ _ h => PanA.put (by decide) h) (Or.inl ⟨by rfl, ?hyb9_1⟩) hTT ?restb9_1
        case hyb9_1 => intro wq hSw; have hq1 := fun i => hSw.cell i; go_simp <;> with_reducible rfl
        simp only [List.getElem_toArray, List.getElem_cons_zero, List.getElem_cons_succ, Act.put, List.setIfInBounds_toArray, List.set_cons_zero, List.set_cons_succ]
        refine wpG_take2 (i := 2) (v := ?vb9_2) rfl (by kernel_rfl) (by kernel_rfl) (by kernel_rfl) rfl (fun _ _ _ h => PanA.put (by decide) h) (Or.inl ⟨by rfl, ?hyb9_2⟩) hTT ?restb9_2
        case hyb9_2 => intro wq hSw; have hq1 := fun i => hSw.cell i; go_simp <;> with_reducible rfl
        simp only [List.getElem_toArray, List.getElem_cons_zero, List.getElem_cons_succ, Act.put, List.setIfInBounds_toArray, List.set_cons_zero, List.set_cons_succ]
        refine wpG_one (i := 3) rfl (by kernel_rfl) (fun K hK => ?_)
        go_simp
        refine (HWK.out _ (hE.below hB).1).mono ?_; rintro e w7 ⟨rfl, hb4⟩
        exact ⟨rfl, rfl, rfl, rfl, ⟨_, _, _, _, _, _, _, gT.below hb4 gT.lt⟩, ⟨_, gE.below hb4 gE.lt⟩, hB.trans (hb4.mono hB.size)⟩
    · obtain rfl : k = K := by omega
      have hge : ¬ (k : Int) < k := by omega
      have hne : le ≠ lineS wEnd [dgt3 (S % 173)] := by
        rcases HBD.out with ⟨j, l, hj, hl, hn⟩ | h
        · exact absurd (HA.out j l hj hl) hn
        · exact h
      generalize lineS wEnd [dgt3 (S % 173)] = lend at *
      have hneb : (le.toList == lend.toList) = false := by
        rw [beq_eq_false_iff_ne, ByteArray.toList_eq, ByteArray.toList_eq]
        intro e
        exact hne (ByteArray.ext (Array.toList_inj.1 e))
      clear hne
      clear HBD
      have hc1 : (0 : Int) ≤ (k : Int) + 1 := by omega
      have hc2 : (k : Int) < (k : Int) + 1 := by omega
      have hc3 : (k : Int) ≤ (k : Int) + 1 := by omega
      go_wp2_with (fail)
      rename World => W2
      refine wp_panicD w (fun a' w' h => by
      obtain ⟨tm, df⟩ := a'
      obtain ⟨-, h2, h3, h4, h5⟩ := h
      simp only at h4
      subst h4
      exact parse_leaves w w' tm h2 h3 h5) ?_
      refine wp_region_G (fun w' => Blk w' (w.heap.size + 1 + 1) 9 arr) 10 (by kernel_rfl) ?_
      replace gT := gT.drew; replace gE := gE.drew; replace gL := gL.drew; replace hB := hB.drew
      generalize W2.drew = WD at *
      have hTT := gL
      refine wpG_take2 (i := 0) (v := ?ve9_0) rfl (by kernel_rfl) (by kernel_rfl) (by kernel_rfl) rfl (fun _ _ _ h => PanA.put (by decide) h) (Or.inl ⟨by rfl, ?hye9_0⟩) hTT ?reste9_0
      case hye9_0 => intro wq hSw; have hq1 := (Blk.cell hSw (k + 1)).trans HQL.out; go_simp <;> with_reducible rfl
      simp only [List.getElem_toArray, List.getElem_cons_zero, List.getElem_cons_succ, Act.put, List.setIfInBounds_toArray, List.set_cons_zero, List.set_cons_succ]
      refine wpG_take2 (i := 1) (v := ?ve9_1) rfl (by kernel_rfl) (by kernel_rfl) (by kernel_rfl) rfl (fun _ _ _ h => PanA.put (by decide) h) (Or.inl ⟨by rfl, ?hye9_1⟩) hTT ?reste9_1
      case hye9_1 => intro wq hSw; have hq1 := (Blk.cell hSw (k + 1)).trans HQL.out; go_simp <;> with_reducible rfl
      simp only [List.getElem_toArray, List.getElem_cons_zero, List.getElem_cons_succ, Act.put, List.setIfInBounds_toArray, List.set_cons_zero, List.set_cons_succ]
      refine wpG_take2 (i := 2) (v := ?ve9_2) rfl (by kernel_rfl) (by kernel_rfl) (by kernel_rfl) rfl (fun _ _ _ h => PanA.put (by decide) h) (Or.inl ⟨by rfl, ?hye9_2⟩) hTT ?reste9_2
      case hye9_2 => intro wq hSw; have hq1 := (Blk.cell hSw (k + 1)).trans HQL.out; go_simp <;> with_reducible rfl
      simp only [List.getElem_toArray, List.getElem_cons_zero, List.getElem_cons_succ, Act.put, List.setIfInBounds_toArray, List.set_cons_zero, List.set_cons_succ]
      refine wpG_take2 (i := 3) (v := ?ve9_3) rfl (by kernel_rfl) (by kernel_rfl) (by kernel_rfl) rfl (fun _ _ _ h => PanA.put (by decide) h) (Or.inl ⟨by rfl, ?hye9_3⟩) hTT ?reste9_3
      case hye9_3 => intro wq hSw; have hq1 := (Blk.cell hSw (k + 1)).trans HQL.out; go_simp <;> with_reducible rfl
      simp only [List.getElem_toArray, List.getElem_cons_zero, List.getElem_cons_succ, Act.put, List.setIfInBounds_toArray, List.set_cons_zero, List.set_cons_succ]
      refine wpG_take2 (i := 4) (v := ?ve9_4) rfl (by kernel_rfl) (by kernel_rfl) (by kernel_rfl) rfl (fun _ _ _ h => PanA.put (by decide) h) (Or.inl ⟨by rfl, ?hye9_4⟩) hTT ?reste9_4
      case hye9_4 => intro wq hSw; have hq1 := (Blk.cell hSw (k + 1)).trans HQL.out; go_simp <;> with_reducible rfl
      simp only [List.getElem_toArray, List.getElem_cons_zero, List.getElem_cons_succ, Act.put, List.setIfInBounds_toArray, List.set_cons_zero, List.set_cons_succ]
      refine wpG_take2 (i := 5) (v := ?ve9_5) rfl (by kernel_rfl) (by kernel_rfl) (by kernel_rfl) rfl (fun _ _ _ h => PanA.put (by decide) h) (Or.inl ⟨by rfl, ?hye9_5⟩) hTT ?reste9_5
      case hye9_5 => intro wq hSw; have hq1 := (Blk.cell hSw (k + 1)).trans HQL.out; go_simp <;> with_reducible rfl
      simp only [List.getElem_toArray, List.getElem_cons_zero, List.getElem_cons_succ, Act.put, List.setIfInBounds_toArray, List.set_cons_zero, List.set_cons_succ]
      refine wpG_take2 (i := 6) (v := ?ve9_6) rfl (by kernel_rfl) (by kernel_rfl) (by kernel_rfl) rfl (fun _ _ _ h => PanA.put (by decide) h) (Or.inl ⟨by rfl, ?hye9_6⟩) hTT ?reste9_6
      case hye9_6 => intro wq hSw; have hq1 := (Blk.cell hSw (k + 1)).trans HQL.out; go_simp <;> with_reducible rfl
      simp only [List.getElem_toArray, List.getElem_cons_zero, List.getElem_cons_succ, Act.put, List.setIfInBounds_toArray, List.set_cons_zero, List.set_cons_succ]
      refine wpG_one (i := 7) rfl (by kernel_rfl) (fun K hK => ?_)
      go_simp
      refine (HEN.out _ _ _ (HRD.out _ gL) (hE.below hB)).mono ?_; rintro e w7 ⟨rfl, hb4⟩
      replace gT := gT.below hb4 gT.lt; replace gE := gE.below hb4 gE.lt; replace gL := gL.below hb4 gL.lt; replace hB := hB.trans (hb4.mono hB.size)
      clear hTT; have hTT := gL; dsimp only
      refine hK _ _ (.inr hTT) ?_
      clear hK K
      try simp only [List.getElem_toArray, List.getElem_cons_zero, List.getElem_cons_succ, Act.put, List.setIfInBounds_toArray, List.set_cons_zero, List.set_cons_succ]
      refine wpG_take2 (i := 8) (v := ?ve9_8) rfl (by kernel_rfl) (by kernel_rfl) (by kernel_rfl) rfl (fun _ _ _ h => PanA.put (by decide) h) (Or.inl ⟨by rfl, ?hye9_8⟩) hTT ?reste9_8
      case hye9_8 => intro wq hSw; have hq1 := (Blk.cell hSw (k + 1)).trans HQL.out; go_simp <;> with_reducible rfl
      simp only [List.getElem_toArray, List.getElem_cons_zero, List.getElem_cons_succ, Act.put, List.setIfInBounds_toArray, List.set_cons_zero, List.set_cons_succ]
      refine wpG_one (i := 9) rfl (by kernel_rfl) (fun K hK => ?_)
      go_simp
      refine (insist_bad _).mono ?_; rintro e w8 ⟨rfl, rfl⟩
      exact ⟨rfl, rfl, rfl, rfl, ⟨_, _, _, _, _, _, _, gT⟩, ⟨_, gE⟩, hB⟩
end
section
open Go.RowKit
set_option maxRecDepth 100000 in
set_option maxHeartbeats 3200000 in
/-- Two cloths of the same rows. -/
theorem sameCloths_eq (A A2 : Option Addr) (n cap n2 cap2 : Nat) (rs : List ByteArray) (w : World) (hn : n ≤ 100000) (hr : Rd w w.heap.size 1 A n (rs.map Value.string)) (hr2 : Rd w w.heap.size 1 A2 n2 (rs.map Value.string)) :
    Calls Tryz.prog 33 #[.slice A n cap, .slice A2 n2 cap2] w fun e w' => e = .returned (.bool true) ∧ Below w.heap.size w w' := by
  have hlen := hr.len
  have hlen2 := hr2.len
  obtain rfl : n2 = n := by omega
  have HL := Lib.hid hlen; clear hlen hlen2
  have hne : ((n2 : Int) != n2) = false := by simp
  go_enter Tryz.func33, Tryz.ntmps33
  go_wp2
  go_loopg [5] n2 (fun g i wr => ∃ k : Nat, g = n2 - k ∧ k ≤ n2 ∧ i = .int .i64 k ∧ Below w.heap.size w wr)
  case atStart => exact ⟨0, rfl, Nat.zero_le _, rfl, Below.refl _ _⟩
  case round =>
    obtain ⟨k, hg, hk, rfl, hB⟩ := hrel
    have HG := Lib.hid hg; clear hg
    by_cases hlt : k < n2
    · obtain ⟨b, off, hz, rfl, hb, hc⟩ := (hr.below hB).atm hlt
      obtain ⟨b2, off2, hz2, rfl, hb2, hc2⟩ := (hr2.below hB).atm hlt
      generalize rs[k] = x at *
      have hq1 := fun p : Blw wr.heap.size wr => blw_cell (a := ⟨b, off + k, none⟩) (Nat.lt_of_lt_of_le hb hB.size) hc p
      have hq2 := fun p : Blw wr.heap.size wr => blw_cell (a := ⟨b2, off2 + k, none⟩) (Nat.lt_of_lt_of_le hb2 hB.size) hc2 p
      go_wp2_with (fail)
      refine wp_region_blw (by kernel_rfl) (by kernel_rfl) ?_
      repeat (go_big_quiet_step (fail))
      refine wpQuiet_nil ?_
      rintro W3 ⟨⟨_, hb3⟩, rfl⟩
      clear hq1 hq2
      go_wp2_with (fail)
      go_roundg (n2 - (k + 1))
      case measure => rw [HG.out]; omega
      case rel => exact ⟨k + 1, rfl, by omega, by go_num, hB.trans (hb3.mono hB.size)⟩
    · have hge : ¬ (k : Int) < n2 := by omega
      go_wp2_with (fail)
      go_ret
      exact ⟨rfl, hB⟩
end
end Go.Proofs.YtifddfchpknkbaaGreatDoor
