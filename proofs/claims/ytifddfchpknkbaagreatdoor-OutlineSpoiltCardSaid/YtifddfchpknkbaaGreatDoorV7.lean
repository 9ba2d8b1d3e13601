import Derived.Test.YtifddfchpknkbaaGreatDoorV1
import Derived.Test.YtifddfchpknkbaaGreatDoorTx
import Derived.Test.YtifddfchpknkbaaGreatDoorAo
set_option linter.unusedVariables false
set_option linter.unusedSimpArgs false
namespace Go.Proofs.YtifddfchpknkbaaGreatDoor
open Go.RowKit Go.Lib

/-- A line of a text is cut into its words. -/
def LineOk (wd : ByteArray) (ws : List ByteArray) : Prop := (lineS wd ws).size ≤ 1000 ∧ 1 ≤ ws.length ∧ ws.length ≤ 1000 ∧ countB (lineS wd ws) ⟨#[32]⟩ = ws.length ∧ splitB ⟨#[32]⟩ 0 ws.length (lineS wd ws) = wd :: ws ∧ containsS (wd :: ws) ⟨#[]⟩ = false
theorem words_ok (k : Int) (wd : ByteArray) (ws : List ByteArray) (m : Int) (w : World) (hkw : ∀ w : World, Calls Tryz.prog 196 #[.int .i64 k] w fun e w' => e = .returned (.string wd) ∧ w = w') (h : LineOk wd ws) (hm : w.cell? ⟨0, 0, none⟩ = some (.int .i64 m)) :
    Calls Tryz.prog 177 #[.int .i64 k, .string (lineS wd ws)] w fun e w' => ∃ v, e = .returned v ∧ w'.ownsRow w.heap.size 9 1 v ws.length (ws.map Value.string) ∧ Below w.heap.size w w' := by
  obtain ⟨h1, h2, h3, h4, h5, h6⟩ := h
  exact wordsOf_ok k wd (lineS wd ws) ws.length (wd :: ws) m w hkw h1 hm h4 h2 h3 h5 rfl rfl h6
theorem Cloths.set {w : World} {base : Nat} {vs : List Value} {cls : List (List ByteArray)} (h : Cloths w base vs cls) {a : Addr} (ha : a.block < base) (u : Value) : Cloths (w.setCell a u) base vs cls := ⟨h.1, fun i h1 h2 => ownsRow_setCell_below (h.2 i h1 h2) ha u⟩
theorem Cloths.mono {w : World} {base base' : Nat} {vs : List Value} {cls : List (List ByteArray)} (h : Cloths w base vs cls) (hb : base' ≤ base) : Cloths w base' vs cls := ⟨h.1, fun i h1 h2 => own_mono (h.2 i h1 h2) hb⟩
theorem Rd_init {w : World} {g B : Nat} {t : TypeId} {xs : List ByteArray} {y : ByteArray} (h : Blk w g t ((xs ++ [y]).map Value.string).toArray) (hg : g < B) : Rd w B 1 (some ⟨g, 0, none⟩) xs.length (xs.map Value.string) := by
  refine ⟨by simp, fun _ => ⟨g, 0, rfl, hg, fun j u hu => ?_⟩⟩
  rw [Nat.zero_add, h.cell j]
  obtain ⟨hj, _⟩ := List.getElem?_eq_some_iff.1 hu
  rw [List.length_map] at hj
  have e : (((xs ++ [y]).map Value.string).toArray)[j]? = (xs.map Value.string)[j]? := by
    rw [List.getElem?_toArray, List.map_append, List.getElem?_append_left (by rw [List.length_map]; exact hj)]
  rw [e]; exact hu

set_option maxRecDepth 100000 in
set_option maxHeartbeats 25600000 in
theorem parse_ok (a0 a1 a2 a3 a4 a5 : Nat) (ha : ∀ a ∈ [a0, a1, a2, a3, a4, a5], a < 100) (s : ByteArray) (rl : List (List ByteArray)) (Ls : List ByteArray) (S K : Nat) (m : Int) (w : World) (hE : Env m w) (hs : s.size ≤ 1000) (hend : hasSuffix s.data.toList [10] = true) (htz : ByteArray.size ⟨(trimSuffix s.data.toList [10]).toArray⟩ ≤ 1000)
    (hcnt : countB ⟨(trimSuffix s.data.toList [10]).toArray⟩ ⟨#[10]⟩ = K + 1) (hspl : splitB ⟨#[10]⟩ 0 (K + 1) ⟨(trimSuffix s.data.toList [10]).toArray⟩ = Ls ++ [lineS wEnd [dgt3 (S % 173)]]) (hLs : Ls = lineS wStage ([a0, a1, a2, a3, a4, a5].map dS) :: rl.map (lineS wFigure)) (hK : rl.length = K) (hK2 : K ≤ 50) (hst : LineOk wStage ([a0, a1, a2, a3, a4, a5].map dS)) (hfg : ∀ rows ∈ rl, LineOk wFigure rows) (hsz : ∀ l ∈ Ls, l.size ≤ 100000) (hsum : sumA Ls 0 0 = S) :
    Calls Tryz.prog 141 #[.string s] w fun e w' => ∃ v vs, e = .returned (.tuple #[.agg #[.int .i64 a0, .int .i64 a1, .int .i64 a2, .int .i64 a3, .int .i64 a4, .int .i64 a5, v], .int .i64 0]) ∧ w'.ownsRow w.heap.size 26 1 v K vs ∧ Cloths w' w.heap.size vs rl ∧ Below w.heap.size w w' := by
  have hmf : ∀ (fn : Fn) (first cap : Array Value) (w : World), (Instr.makeFunc fn first cap).run Tryz.prog w = .ok (.func fn first cap) w := fun _ _ _ _ => rfl
  obtain ⟨i0, hi, hz0, hz1', hz2'⟩ := info_parts info26
  obtain ⟨le, hle⟩ : ∃ le, le = lineS wEnd [dgt3 (S % 173)] := ⟨_, rfl⟩
  rw [← hle] at hspl
  obtain ⟨l0, hl0⟩ : ∃ l0, l0 = lineS wStage ([a0, a1, a2, a3, a4, a5].map dS) := ⟨_, rfl⟩
  rw [← hl0] at hLs
  have hLl : Ls.length = K + 1 := by rw [hLs, List.length_cons, List.length_map, hK]
  have hlines := fun wx hx => linesOf_ok s m wx hs hx hend htz
  rw [hcnt, hspl] at hlines
  have hw0 := fun wx hx => words_ok 0 wStage ([a0, a1, a2, a3, a4, a5].map dS) m wx word_stage hst hx
  rw [← hl0] at hw0
  have hwf := fun rows (hr : rows ∈ rl) wx hx => words_ok 1 wFigure rows m wx word_figure (hfg rows hr) hx
  have hps := fun (A : Option Addr) (cap : Nat) wx hx => parseStage_ok a0 a1 a2 a3 a4 a5 A cap (dS a0) (dS a1) (dS a2) (dS a3) (dS a4) (dS a5) wx hx (parseNum_any a0 (ha _ (by simp))) (parseNum_any a1 (ha _ (by simp))) (parseNum_any a2 (ha _ (by simp))) (parseNum_any a3 (ha _ (by simp))) (parseNum_any a4 (ha _ (by simp))) (parseNum_any a5 (ha _ (by simp)))
  have hend2 := fun (A : Option Addr) (cap : Nat) wx hr hx => endOf_any A (K + 1) cap Ls S m wx (by omega) hsz hr hsum hx
  rw [← hle] at hend2
  obtain ⟨arr, harr⟩ : ∃ arr, arr = ((Ls ++ [le]).map Value.string).toArray := ⟨_, rfl⟩
  rw [← harr] at hlines
  have hq0 : arr[0]? = some (.string l0) := by rw [harr, hLs]; rfl
  have hqf : ∀ k (hk : k < rl.length), arr[1 + k]? = some (.string (lineS wFigure rl[k])) := fun k hk => by
    rw [harr, hLs, List.getElem?_toArray, Nat.add_comm, List.cons_append, List.map_cons, List.getElem?_cons_succ, List.map_append, List.getElem?_append_left (by rw [List.length_map, List.length_map]; exact hk), List.getElem?_map, List.getElem?_map, List.getElem?_eq_getElem hk]
    rfl
  have hql : arr[K + 1]? = some (.string le) := by
    rw [harr, List.getElem?_toArray, List.map_append, List.getElem?_append_right (by rw [List.length_map, hLl]; exact Nat.le_refl _)]
    simp [hLl]
  have hsl1 := run_slice_cut (P := Tryz.prog) 24 9 1 Tryz.underlying24 (fun _ => by kernel_rfl) (some ⟨w.heap.size + 1 + 1, 0, none⟩) (K + 1 + 1) (K + 1 + 1) .i64 .i64 1 (K + 1) (by omega) (by omega)
  rw [show cutA (some ⟨w.heap.size + 1 + 1, 0, none⟩) (K + 1 + 1) 1 1 = some ⟨w.heap.size + 1 + 1, 1, none⟩ by unfold cutA; rw [if_neg (by omega)]; rfl, show K + 1 - 1 = K by omega, show K + 1 + 1 - 1 = K + 1 by omega] at hsl1
  have hsl2 := run_slice_hi (P := Tryz.prog) 24 9 1 Tryz.underlying24 (fun _ => by kernel_rfl) (w.heap.size + 1 + 1) (K + 1 + 1) (K + 1 + 1) .i64 (K + 1) (by omega) (by omega)
  have hwr := i64_ok ((K : Int) + 1) (by omega)
  have hge1 : (1 : Int) ≤ (K : Int) + 1 := by omega
  have hRd : ∀ wx, Blk wx (w.heap.size + 1 + 1) 9 arr → Rd wx wx.heap.size 1 (some ⟨w.heap.size + 1 + 1, 0, none⟩) (K + 1) (Ls.map Value.string) := fun wx hx => by
    rw [← hLl]; rw [harr] at hx; exact Rd_init hx hx.lt
  have HL := Lib.hid hlines; have HW0 := Lib.hid hw0; have HWF := Lib.hid hwf; have HPS := Lib.hid hps; have HEN := Lib.hid hend2; have HQ0 := Lib.hid hq0; have HQF := Lib.hid hqf; have HQL := Lib.hid hql; have HRD := Lib.hid hRd; have HK := Lib.hid hK
  clear hlines hw0 hwf hps hend2 hq0 hqf hql hRd harr hLs hl0 hle hspl hcnt htz hend hst hfg hsz hsum hLl hs ha hK
  have hB2 : Below w.heap.size w ((w.alloc (.cells #[.int .i64 0, .int .i64 0, .int .i64 0, .int .i64 0, .int .i64 0, .int .i64 0, .slice none 0 0] 121)).alloc (.cells #[.int .i64 0] 31)) := ((Below.refl _ w).alloc (Nat.le_refl _) _).alloc (by simp only [World.size_alloc]; omega) _
  have hB3 : Below w.heap.size w (((w.alloc (.cells #[.int .i64 0, .int .i64 0, .int .i64 0, .int .i64 0, .int .i64 0, .int .i64 0, .slice none 0 0] 121)).alloc (.cells #[.int .i64 0] 31)).alloc (.cells arr 9)) := hB2.alloc hB2.size _
  have gT : Blk (((w.alloc (.cells #[.int .i64 0, .int .i64 0, .int .i64 0, .int .i64 0, .int .i64 0, .int .i64 0, .slice none 0 0] 121)).alloc (.cells #[.int .i64 0] 31)).alloc (.cells arr 9)) w.heap.size 121 #[.int .i64 0, .int .i64 0, .int .i64 0, .int .i64 0, .int .i64 0, .int .i64 0, .slice none 0 0] := ((Blk.new w 121 #[.int .i64 0, .int .i64 0, .int .i64 0, .int .i64 0, .int .i64 0, .int .i64 0, .slice none 0 0]).alloc _).alloc _
  have gE : Blk (((w.alloc (.cells #[.int .i64 0, .int .i64 0, .int .i64 0, .int .i64 0, .int .i64 0, .int .i64 0, .slice none 0 0] 121)).alloc (.cells #[.int .i64 0] 31)).alloc (.cells arr 9)) (w.heap.size + 1) 31 #[.int .i64 0] := (blk2 w _ 31 #[.int .i64 0]).alloc _
  have gL : Blk (((w.alloc (.cells #[.int .i64 0, .int .i64 0, .int .i64 0, .int .i64 0, .int .i64 0, .int .i64 0, .slice none 0 0] 121)).alloc (.cells #[.int .i64 0] 31)).alloc (.cells arr 9)) (w.heap.size + 1 + 1) 9 arr := by have h := Blk.new ((w.alloc (.cells #[.int .i64 0, .int .i64 0, .int .i64 0, .int .i64 0, .int .i64 0, .int .i64 0, .slice none 0 0] 121)).alloc (.cells #[.int .i64 0] 31)) 9 arr; simpa only [World.size_alloc] using h
  have hE2 := hE.below hB2
  have hL2 := HL.out _ hE2.1
  simp only [World.size_alloc] at hL2
  have hcl0 := (gL.cell 0).trans HQ0.out; have hlL := gL.lt
  go_enter_defers Tryz.func141, Tryz.ntmps141
  go_upto_region 6 with (first
    | (go_at_call 174; refine hL2.mono ?_; rintro e w4 ⟨rfl, rfl⟩; clear hL2)
    | (go_at_call 175; refine (insist_ok _).mono ?_; rintro e w4 ⟨rfl, rfl⟩)
    | (go_at_call 177; refine (HW0.out _ (hE.below hB3).1).mono ?_; rintro e w4 ⟨v4, rfl, own4, hb4⟩; obtain ⟨A4, c4, rfl⟩ := own_slice own4; have hr4 := Rd.of_own own4; clear own4; replace gT := gT.below hb4 gT.lt; replace gE := gE.below hb4 gE.lt; replace gL := gL.below hb4 gL.lt; replace hB3 := hB3.trans (hb4.mono hB3.size); clear hb4 hcl0 hlL)
    | (go_at_call 176; refine (HPS.out A4 c4 _ hr4).mono ?_; rintro e w5 ⟨rfl, hb5⟩; clear hr4; replace gT := gT.below hb5 gT.lt; replace gE := gE.below hb5 gE.lt; replace gL := gL.below hb5 gL.lt; replace hB3 := hB3.trans (hb5.mono hB3.size); clear hb5; have hqT := fun i => gT.cell i; have hfT := fun i => gT.frozen i; have hlT := gT.lt))
  clear hqT hfT hlT HPS HW0
  replace gT := gT.set_ 0 (.int .i64 a0)
  replace gE := gE.far (p := ⟨w.heap.size, 0, none⟩) (show w.heap.size + 1 ≠ w.heap.size by omega) (.int .i64 a0)
  replace gL := gL.far (p := ⟨w.heap.size, 0, none⟩) (show w.heap.size + 1 + 1 ≠ w.heap.size by omega) (.int .i64 a0)
  replace hB3 := hB3.setCell (p := ⟨w.heap.size, 0, none⟩) (Nat.le_refl w.heap.size) (.int .i64 a0)
  replace gT := gT.set_ 1 (.int .i64 a1)
  replace gE := gE.far (p := ⟨w.heap.size, 1, none⟩) (show w.heap.size + 1 ≠ w.heap.size by omega) (.int .i64 a1)
  replace gL := gL.far (p := ⟨w.heap.size, 1, none⟩) (show w.heap.size + 1 + 1 ≠ w.heap.size by omega) (.int .i64 a1)
  replace hB3 := hB3.setCell (p := ⟨w.heap.size, 1, none⟩) (Nat.le_refl w.heap.size) (.int .i64 a1)
  replace gT := gT.set_ 2 (.int .i64 a2)
  replace gE := gE.far (p := ⟨w.heap.size, 2, none⟩) (show w.heap.size + 1 ≠ w.heap.size by omega) (.int .i64 a2)
  replace gL := gL.far (p := ⟨w.heap.size, 2, none⟩) (show w.heap.size + 1 + 1 ≠ w.heap.size by omega) (.int .i64 a2)
  replace hB3 := hB3.setCell (p := ⟨w.heap.size, 2, none⟩) (Nat.le_refl w.heap.size) (.int .i64 a2)
  replace gT := gT.set_ 3 (.int .i64 a3)
  replace gE := gE.far (p := ⟨w.heap.size, 3, none⟩) (show w.heap.size + 1 ≠ w.heap.size by omega) (.int .i64 a3)
  replace gL := gL.far (p := ⟨w.heap.size, 3, none⟩) (show w.heap.size + 1 + 1 ≠ w.heap.size by omega) (.int .i64 a3)
  replace hB3 := hB3.setCell (p := ⟨w.heap.size, 3, none⟩) (Nat.le_refl w.heap.size) (.int .i64 a3)
  replace gT := gT.set_ 4 (.int .i64 a4)
  replace gE := gE.far (p := ⟨w.heap.size, 4, none⟩) (show w.heap.size + 1 ≠ w.heap.size by omega) (.int .i64 a4)
  replace gL := gL.far (p := ⟨w.heap.size, 4, none⟩) (show w.heap.size + 1 + 1 ≠ w.heap.size by omega) (.int .i64 a4)
  replace hB3 := hB3.setCell (p := ⟨w.heap.size, 4, none⟩) (Nat.le_refl w.heap.size) (.int .i64 a4)
  replace gT := gT.set_ 5 (.int .i64 a5)
  replace gE := gE.far (p := ⟨w.heap.size, 5, none⟩) (show w.heap.size + 1 ≠ w.heap.size by omega) (.int .i64 a5)
  replace gL := gL.far (p := ⟨w.heap.size, 5, none⟩) (show w.heap.size + 1 + 1 ≠ w.heap.size by omega) (.int .i64 a5)
  replace hB3 := hB3.setCell (p := ⟨w.heap.size, 5, none⟩) (Nat.le_refl w.heap.size) (.int .i64 a5)
  replace gT : Blk ((((((w5.setCell ⟨w.heap.size, 0, none⟩ (.int .i64 a0)).setCell ⟨w.heap.size, 1, none⟩ (.int .i64 a1)).setCell ⟨w.heap.size, 2, none⟩ (.int .i64 a2)).setCell ⟨w.heap.size, 3, none⟩ (.int .i64 a3)).setCell ⟨w.heap.size, 4, none⟩ (.int .i64 a4)).setCell ⟨w.heap.size, 5, none⟩ (.int .i64 a5)) w.heap.size 121 #[.int .i64 a0, .int .i64 a1, .int .i64 a2, .int .i64 a3, .int .i64 a4, .int .i64 a5, .slice none 0 0] := gT
  generalize ((((((w5.setCell ⟨w.heap.size, 0, none⟩ (.int .i64 a0)).setCell ⟨w.heap.size, 1, none⟩ (.int .i64 a1)).setCell ⟨w.heap.size, 2, none⟩ (.int .i64 a2)).setCell ⟨w.heap.size, 3, none⟩ (.int .i64 a3)).setCell ⟨w.heap.size, 4, none⟩ (.int .i64 a4)).setCell ⟨w.heap.size, 5, none⟩ (.int .i64 a5)) = w6 at *
  go_wp2_with (fail)
  have hown0 : w6.ownsRow (w.heap.size + 1 + 1) 26 1 (.slice none 0 0) 0 [] := World.ownsRow_nil _ _ _ _
  go_loopg [27] K (fun g i wr => ∃ (k : Nat) (v0 : Value) (vs : List Value), g = K - k ∧ k ≤ K ∧ i = .int .i64 k ∧ wr.ownsRow (w.heap.size + 1 + 1) 26 1 v0 k vs ∧ Cloths wr (w.heap.size + 1 + 1) vs (rl.take k) ∧ Blk wr w.heap.size 121 #[.int .i64 a0, .int .i64 a1, .int .i64 a2, .int .i64 a3, .int .i64 a4, .int .i64 a5, v0] ∧ Blk wr (w.heap.size + 1) 31 #[.int .i64 0] ∧ Blk wr (w.heap.size + 1 + 1) 9 arr ∧ Below w.heap.size w wr)
  case atStart => exact ⟨0, _, [], rfl, Nat.zero_le _, rfl, hown0, Cloths.nil _ _, gT, gE, gL, hB3⟩
  case round =>
    clear gT gE gL hB3 hown0
    obtain ⟨k, v0, vs, hg, hk, rfl, hown, hcl, gT, gE, gL, hB⟩ := hrel
    obtain ⟨va, vc, rfl⟩ := own_slice hown
    have HG := Lib.hid hg; clear hg
    by_cases hlt : k < K
    · have hlti : (k : Int) < K := by omega
      have hzk : k < rl.length := by rw [HK.out]; exact hlt
      have hck := (gL.cell (1 + k)).trans (HQF.out k hzk)
      have hts : rl.take (k + 1) = rl.take k ++ [rl[k]] := List.take_succ_eq_append_getElem hzk
      have hWF := HWF.out rl[k] (List.getElem_mem hzk)
      have hlL := gL.lt
      generalize rl[k] = rows at *
      have HTS := Lib.hid hts; have HWK := Lib.hid hWF; clear hts hWF
      go_upto_region 9 with (fail)
      refine wp_nopanic ?_
      rename World => WR
      refine wp_region_G (fun w' => Blk w' w.heap.size 121 #[.int .i64 a0, .int .i64 a1, .int .i64 a2, .int .i64 a3, .int .i64 a4, .int .i64 a5, .slice va k vc]) 8 (by kernel_rfl) ?_
      replace gT := gT.drew; replace gE := gE.drew; replace gL := gL.drew; replace hB := hB.drew; replace hown := hown.drew; replace hcl := hcl.drew
      clear hck hlL
      generalize WR.drew = WD at *
      have hlLD : w.heap.size + 1 + 1 ≤ WD.heap.size := Nat.le_of_lt gL.lt
      have hTT := gT
      refine wpG_take (i := 0) (v := ?v7_0) rfl (by kernel_rfl) (by kernel_rfl) (by kernel_rfl) (by kernel_rfl) (fun _ _ _ h => h) (Or.inl ⟨by rfl, ?hy7_0⟩) hTT ?rest7_0
      case hy7_0 => intro wq hSw; have hq1 := fun i => hSw.cell i; go_simp <;> with_reducible rfl
      simp only [List.getElem_toArray, List.getElem_cons_zero, List.getElem_cons_succ, Act.put, List.setIfInBounds_toArray, List.set_cons_zero, List.set_cons_succ]
      refine wpG_take (i := 1) (v := ?v7_1) rfl (by kernel_rfl) (by kernel_rfl) (by kernel_rfl) (by kernel_rfl) (fun _ _ _ h => h) (Or.inl ⟨by rfl, ?hy7_1⟩) hTT ?rest7_1
      case hy7_1 => intro wq hSw; have hq1 := fun i => hSw.cell i; go_simp <;> with_reducible rfl
      simp only [List.getElem_toArray, List.getElem_cons_zero, List.getElem_cons_succ, Act.put, List.setIfInBounds_toArray, List.set_cons_zero, List.set_cons_succ]
      refine wpG_take (i := 2) (v := ?v7_2) rfl (by kernel_rfl) (by kernel_rfl) (by kernel_rfl) (by kernel_rfl) (fun _ _ _ h => h) (Or.inl ⟨by rfl, ?hy7_2⟩) hTT ?rest7_2
      case hy7_2 => intro wq hSw; have hq1 := fun i => hSw.cell i; go_simp <;> with_reducible rfl
      simp only [List.getElem_toArray, List.getElem_cons_zero, List.getElem_cons_succ, Act.put, List.setIfInBounds_toArray, List.set_cons_zero, List.set_cons_succ]
      refine wpG_one (i := 3) rfl (by kernel_rfl) (fun K hK => ?_)
      go_simp
      refine (HWK.out _ (hE.below hB).1).mono ?_; rintro e w7 ⟨v4, rfl, own4, hb4⟩
      replace gT := gT.below hb4 gT.lt; replace gE := gE.below hb4 gE.lt; replace gL := gL.below hb4 gL.lt; replace hown := ownsRow_below' hown hb4; replace hcl := hcl.below hb4
      replace own4 := own_mono own4 hlLD
      obtain ⟨g4, c4, rfl⟩ := own_slice own4
      replace hB := hB.trans (hb4.mono hB.size); clear hb4 hTT; have hTT := gT; dsimp only
      refine hK _ _ (.inr hTT) ?_
      clear hK K
      try simp only [List.getElem_toArray, List.getElem_cons_zero, List.getElem_cons_succ, Act.put, List.setIfInBounds_toArray, List.set_cons_zero, List.set_cons_succ]
      refine wpG_take (i := 4) (v := ?v7_4) rfl (by kernel_rfl) (by kernel_rfl) (by kernel_rfl) (by kernel_rfl) (fun _ _ _ h => h) (Or.inl ⟨by rfl, ?hy7_4⟩) hTT ?rest7_4
      case hy7_4 => intro wq hSw; have hq1 := fun i => hSw.cell i; go_simp <;> with_reducible rfl
      simp only [List.getElem_toArray, List.getElem_cons_zero, List.getElem_cons_succ, Act.put, List.setIfInBounds_toArray, List.set_cons_zero, List.set_cons_succ]
      refine wpG_one (i := 5) rfl (by kernel_rfl) (fun K hK => ?_)
      go_simp
      replace gT := gT.alloc (.cells #[.slice g4 rows.length c4] 26); replace gE := gE.alloc (.cells #[.slice g4 rows.length c4] 26); replace gL := gL.alloc (.cells #[.slice g4 rows.length c4] 26); replace hown := hown.alloc (.cells #[.slice g4 rows.length c4] 26); replace hcl := hcl.alloc (.cells #[.slice g4 rows.length c4] 26); replace own4 := own4.alloc (.cells #[.slice g4 rows.length c4] 26); replace hB := hB.alloc hB.size (.cells #[.slice g4 rows.length c4] 26); clear hTT; have hTT := gT
      refine hK _ _ (.inr hTT) ?_
      clear hK K
      try simp only [List.getElem_toArray, List.getElem_cons_zero, List.getElem_cons_succ, Act.put, List.setIfInBounds_toArray, List.set_cons_zero, List.set_cons_succ]
      refine wpG_one (i := 6) rfl (by kernel_rfl) (fun K hK => ?_)
      rw [if_pos (by rfl)]; refine wp_append_any _ _ _ 51 rfl (w.heap.size + 1 + 1) 26 i0 (.agg #[.slice none 0 0]) 1 24 Tryz.underlying51 hi hz0 hz1' hz2' rfl (by decide) _ k vs rfl hown (w7.heap.size + 1) (some ⟨w7.heap.size, 0, none⟩) 1 1 [.slice g4 rows.length c4] rfl (Rd.blkN (Blk.new _ _ _) rfl (Nat.lt_succ_self _)).reads (by simp [Value.oneCell']) (by unfold maxLen; omega) (by omega) (Nat.le_of_lt gL.lt) (fun v8 w8 hown8 hgrow hob => ?_)
      replace gT := gT.kept_own hown (by decide) hgrow; replace gE := gE.kept_own hown (by decide) hgrow; replace gL := gL.kept_own hown (by decide) hgrow
      have hcl2 := (hcl.snoc own4).kept hown (by decide) hgrow
      replace hB := hB.grown hgrow hB.size (fun g hg => Nat.le_trans (by omega) (hown.lt g hg).1)
      obtain ⟨v8A, v8c, rfl⟩ := own_slice hown8
      clear hTT hown hcl own4; have hTT := gT; have hqT := fun i => gT.cell i; have hfT := fun i => gT.frozen i; have hlT := gT.lt
      refine hK _ _ (.inr hTT) ?_
      clear hK K
      try simp only [List.getElem_toArray, List.getElem_cons_zero, List.getElem_cons_succ, Act.put, List.setIfInBounds_toArray, List.set_cons_zero, List.set_cons_succ]
      refine wpG_take (i := 7) (v := ?v7_7) rfl (by kernel_rfl) (by kernel_rfl) (by kernel_rfl) (by kernel_rfl) (fun _ _ _ h => h) (Or.inl ⟨by rfl, ?hy7_7⟩) hTT ?rest7_7
      case hy7_7 => intro wq hSw; have hq1 := fun i => hSw.cell i; go_simp <;> with_reducible rfl
      simp only [List.getElem_toArray, List.getElem_cons_zero, List.getElem_cons_succ, Act.put, List.setIfInBounds_toArray, List.set_cons_zero, List.set_cons_succ]
      refine wpG_one (i := 8) rfl (by kernel_rfl) (fun K hK => ?_)
      go_simp
      refine hK _ _ (.inl rfl) ?_
      clear hK K
      try simp only [List.getElem_toArray, List.getElem_cons_zero, List.getElem_cons_succ, Act.put, List.setIfInBounds_toArray, List.set_cons_zero, List.set_cons_succ]
      refine wpG_done (by kernel_rfl) ?_ _
      dsimp only
      clear hTT hqT hfT hlT
      replace gT := gT.set_ 6 (.slice v8A (k + 1) v8c)
      replace gE := gE.far (p := ⟨w.heap.size, 6, none⟩) (show w.heap.size + 1 ≠ w.heap.size by omega) (.slice v8A (k + 1) v8c)
      replace gL := gL.far (p := ⟨w.heap.size, 6, none⟩) (show w.heap.size + 1 + 1 ≠ w.heap.size by omega) (.slice v8A (k + 1) v8c)
      replace hB := hB.setCell (p := ⟨w.heap.size, 6, none⟩) (Nat.le_refl w.heap.size) (.slice v8A (k + 1) v8c)
      replace hown8 := ownsRow_setCell_below hown8 (a := ⟨w.heap.size, 6, none⟩) (show w.heap.size < w.heap.size + 1 + 1 by omega) (.slice v8A (k + 1) v8c)
      replace hcl2 := hcl2.set (a := ⟨w.heap.size, 6, none⟩) (show w.heap.size < w.heap.size + 1 + 1 by omega) (.slice v8A (k + 1) v8c)
      generalize w8.setCell ⟨w.heap.size, 6, none⟩ (.slice v8A (k + 1) v8c) = w9 at *
      go_wp2_with (fail)
      go_roundg (K - (k + 1))
      case measure => rw [HG.out]; omega
      case rel => exact ⟨k + 1, _, _, rfl, by omega, by go_num, hown8, by rw [HTS.out]; exact hcl2, by simpa using gT, gE, gL, hB⟩
    · obtain rfl : k = K := by omega
      have hge : ¬ (k : Int) < k := by omega
      have htk : rl.take k = rl := List.take_of_length_le (by rw [HK.out]; exact Nat.le_refl _)
      rw [htk] at hcl
      have hckl := (gL.cell (k + 1)).trans HQL.out
      have hlL := gL.lt
      clear htk
      go_wp2_with (fail)
      rename World => W2
      have hbb := fun (p : Blw W2.heap.size W2) => (blw_blk gL p (k + 1)).trans HQL.out
      refine wp_region_blw (by kernel_rfl) (by kernel_rfl) ?_
      repeat (go_big_quiet_step (first | (go_at_call 172; exact Calls.blw_of _ (HEN.out _ _ _ (HRD.out _ (gL.below (Blw.h _) gL.lt)) ((hE.below hB).below (Blw.h _)))) | (go_at_call 175; exact Calls.blw_of_same _ (insist_ok _))))
      refine wpQuiet_nil ?_
      rintro W3 ⟨⟨_, hb3⟩, rfl⟩
      replace gT := gT.below hb3 gT.lt; replace gE := gE.below hb3 gE.lt; replace gL := gL.below hb3 gL.lt; replace hown := ownsRow_below' hown hb3; replace hcl := hcl.below hb3; replace hB := hB.trans (hb3.mono hB.size)
      have hqT := fun i => gT.cell i; have hfT := fun i => gT.frozen i; have hlT := gT.lt; have hqE := fun i => gE.cell i; have hfE := fun i => gE.frozen i; have hlE := gE.lt
      clear hbb hckl hlL
      go_wp2_with (fail)
      clear hqT hfT hlT hqE hfE hlE
      replace gT := gT.set_ 0 (.int .i64 a0); replace gE := gE.far (p := ⟨w.heap.size, 0, none⟩) (show w.heap.size + 1 ≠ w.heap.size by omega) (.int .i64 a0); replace hB := hB.setCell (p := ⟨w.heap.size, 0, none⟩) (Nat.le_refl w.heap.size) (.int .i64 a0)
      replace hown := ownsRow_setCell_below hown (a := ⟨w.heap.size, 0, none⟩) (show w.heap.size < w.heap.size + 1 + 1 by omega) (.int .i64 a0); replace hcl := hcl.set (a := ⟨w.heap.size, 0, none⟩) (show w.heap.size < w.heap.size + 1 + 1 by omega) (.int .i64 a0)
      replace gT := gT.set_ 1 (.int .i64 a1); replace gE := gE.far (p := ⟨w.heap.size, 1, none⟩) (show w.heap.size + 1 ≠ w.heap.size by omega) (.int .i64 a1); replace hB := hB.setCell (p := ⟨w.heap.size, 1, none⟩) (Nat.le_refl w.heap.size) (.int .i64 a1)
      replace hown := ownsRow_setCell_below hown (a := ⟨w.heap.size, 1, none⟩) (show w.heap.size < w.heap.size + 1 + 1 by omega) (.int .i64 a1); replace hcl := hcl.set (a := ⟨w.heap.size, 1, none⟩) (show w.heap.size < w.heap.size + 1 + 1 by omega) (.int .i64 a1)
      replace gT := gT.set_ 2 (.int .i64 a2); replace gE := gE.far (p := ⟨w.heap.size, 2, none⟩) (show w.heap.size + 1 ≠ w.heap.size by omega) (.int .i64 a2); replace hB := hB.setCell (p := ⟨w.heap.size, 2, none⟩) (Nat.le_refl w.heap.size) (.int .i64 a2)
      replace hown := ownsRow_setCell_below hown (a := ⟨w.heap.size, 2, none⟩) (show w.heap.size < w.heap.size + 1 + 1 by omega) (.int .i64 a2); replace hcl := hcl.set (a := ⟨w.heap.size, 2, none⟩) (show w.heap.size < w.heap.size + 1 + 1 by omega) (.int .i64 a2)
      replace gT := gT.set_ 3 (.int .i64 a3); replace gE := gE.far (p := ⟨w.heap.size, 3, none⟩) (show w.heap.size + 1 ≠ w.heap.size by omega) (.int .i64 a3); replace hB := hB.setCell (p := ⟨w.heap.size, 3, none⟩) (Nat.le_refl w.heap.size) (.int .i64 a3)
      replace hown := ownsRow_setCell_below hown (a := ⟨w.heap.size, 3, none⟩) (show w.heap.size < w.heap.size + 1 + 1 by omega) (.int .i64 a3); replace hcl := hcl.set (a := ⟨w.heap.size, 3, none⟩) (show w.heap.size < w.heap.size + 1 + 1 by omega) (.int .i64 a3)
      replace gT := gT.set_ 4 (.int .i64 a4); replace gE := gE.far (p := ⟨w.heap.size, 4, none⟩) (show w.heap.size + 1 ≠ w.heap.size by omega) (.int .i64 a4); replace hB := hB.setCell (p := ⟨w.heap.size, 4, none⟩) (Nat.le_refl w.heap.size) (.int .i64 a4)
      replace hown := ownsRow_setCell_below hown (a := ⟨w.heap.size, 4, none⟩) (show w.heap.size < w.heap.size + 1 + 1 by omega) (.int .i64 a4); replace hcl := hcl.set (a := ⟨w.heap.size, 4, none⟩) (show w.heap.size < w.heap.size + 1 + 1 by omega) (.int .i64 a4)
      replace gT := gT.set_ 5 (.int .i64 a5); replace gE := gE.far (p := ⟨w.heap.size, 5, none⟩) (show w.heap.size + 1 ≠ w.heap.size by omega) (.int .i64 a5); replace hB := hB.setCell (p := ⟨w.heap.size, 5, none⟩) (Nat.le_refl w.heap.size) (.int .i64 a5)
      replace hown := ownsRow_setCell_below hown (a := ⟨w.heap.size, 5, none⟩) (show w.heap.size < w.heap.size + 1 + 1 by omega) (.int .i64 a5); replace hcl := hcl.set (a := ⟨w.heap.size, 5, none⟩) (show w.heap.size < w.heap.size + 1 + 1 by omega) (.int .i64 a5)
      replace gT := gT.set_ 6 (.slice va k vc); replace gE := gE.far (p := ⟨w.heap.size, 6, none⟩) (show w.heap.size + 1 ≠ w.heap.size by omega) (.slice va k vc); replace hB := hB.setCell (p := ⟨w.heap.size, 6, none⟩) (Nat.le_refl w.heap.size) (.slice va k vc)
      replace hown := ownsRow_setCell_below hown (a := ⟨w.heap.size, 6, none⟩) (show w.heap.size < w.heap.size + 1 + 1 by omega) (.slice va k vc); replace hcl := hcl.set (a := ⟨w.heap.size, 6, none⟩) (show w.heap.size < w.heap.size + 1 + 1 by omega) (.slice va k vc)
      replace gE := gE.set_ 0 (.int .i64 0); replace gT := gT.far (p := ⟨w.heap.size + 1, 0, none⟩) (show w.heap.size ≠ w.heap.size + 1 by omega) (.int .i64 0); replace hB := hB.setCell (p := ⟨w.heap.size + 1, 0, none⟩) (show w.heap.size ≤ w.heap.size + 1 by omega) (.int .i64 0)
      replace hown := ownsRow_setCell_below hown (a := ⟨w.heap.size + 1, 0, none⟩) (show w.heap.size + 1 < w.heap.size + 1 + 1 by omega) (.int .i64 0); replace hcl := hcl.set (a := ⟨w.heap.size + 1, 0, none⟩) (show w.heap.size + 1 < w.heap.size + 1 + 1 by omega) (.int .i64 0)
      generalize (((((((W3.setCell ⟨w.heap.size, 0, none⟩ (.int .i64 a0)).setCell ⟨w.heap.size, 1, none⟩ (.int .i64 a1)).setCell ⟨w.heap.size, 2, none⟩ (.int .i64 a2)).setCell ⟨w.heap.size, 3, none⟩ (.int .i64 a3)).setCell ⟨w.heap.size, 4, none⟩ (.int .i64 a4)).setCell ⟨w.heap.size, 5, none⟩ (.int .i64 a5)).setCell ⟨w.heap.size, 6, none⟩ (.slice va k vc)).setCell ⟨w.heap.size + 1, 0, none⟩ (.int .i64 0) = w9 at *
      refine leaves_cons (f := 173) (args := #[.pointer (some ⟨w.heap.size, 0, none⟩), .pointer (some ⟨w.heap.size + 1, 0, none⟩)]) (by simp) (by simp [go_sem]) ?_
      refine (parseIdle _ _ _).mono ?_
      rintro e u' w2 ⟨rfl, rfl, rfl⟩
      have hcT := fun i => gT.cell i; have hcE := fun i => gE.cell i
      refine ⟨.tuple #[.agg #[.int .i64 a0, .int .i64 a1, .int .i64 a2, .int .i64 a3, .int .i64 a4, .int .i64 a5, .slice va k vc], .int .i64 0], ?_, _, _, rfl, own_mono hown (by omega), hcl.mono (by omega), hB⟩
      simp [results, Tryz.results141, go_sem, hcT, hcE]
end Go.Proofs.YtifddfchpknkbaaGreatDoor
