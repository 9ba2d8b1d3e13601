import Derived.Test.YtekmnelpkogppaaGreatDoorProg
import Derived.Test.YtekmnelpkogppaaGreatDoorKy5
set_option linter.unusedVariables false
set_option linter.unusedSimpArgs false
set_option maxRecDepth 100000
set_option maxHeartbeats 40000000
namespace Go.Proofs.YtekmnelpkogppaaGreatDoor
section
open Go.RowKit Go.Lib
def StOk (cps : Cps) (k : Nat) : Prop := cps.length ≤ k ∧ ∀ c ∈ cps, c.2.length ≤ k ∧ ∀ l ∈ c.2, l.ws.length ≤ 1000 ∧ ∀ a ∈ l.ws, a < 100
theorem StOk.up {cps : Cps} {k : Nat} (h : StOk cps k) : StOk cps (k + 1) := ⟨by have := h.1; omega, fun c hc => ⟨by have := (h.2 c hc).1; omega, (h.2 c hc).2⟩⟩
theorem StOk.copy {cps : Cps} {k : Nat} (h : StOk cps k) : StOk (cps ++ [(.slice none 0 0, [])]) (k + 1) := by
 refine ⟨by rw [List.length_append]; have := h.1; simp; omega, fun c hc => ?_⟩
 rcases List.mem_append.1 hc with hc | hc
 ·exact h.up.2 c hc
 ·obtain rfl : c = (.slice none 0 0, []) := (by simpa using hc)
  exact ⟨Nat.zero_le _, fun l hl => by cases hl⟩
theorem StOk.line {us : Cps} {lv lv' : Value} {ls : List CL} {l : CL} {k : Nat} (h : StOk (us ++ [(lv, ls)]) k) (hl : l.ws.length ≤ 1000 ∧ ∀ a ∈ l.ws, a < 100) : StOk (us ++ [(lv', ls ++ [l])]) (k + 1) := by
 refine ⟨by have := h.1; simp only [List.length_append, List.length_cons, List.length_nil] at this ⊢; omega, fun c hc => ?_⟩
 rcases List.mem_append.1 hc with hc | hc
 ·exact h.up.2 c (List.mem_append_left _ hc)
 ·obtain rfl : c = (lv', ls ++ [l]) := (by simpa using hc)
  obtain ⟨h1, h2⟩ := h.2 (lv, ls) (by simp)
  refine ⟨by simp only [List.length_append, List.length_cons, List.length_nil] at h1 ⊢; omega, fun x hx => ?_⟩
  rcases List.mem_append.1 hx with hx | hx
  ·exact h2 x hx
  ·obtain rfl : x = l := (by simpa using hx)
   exact hl
theorem content_copy (cps : Cps) : content (cps ++ [(.slice none 0 0, [])]) = content cps ++ [[]] := by unfold content; simp
theorem content_line (us : Cps) (lv lv' : Value) (ls : List CL) (l : CL) : content (us ++ [(lv', ls ++ [l])]) = addL (content (us ++ [(lv, ls)])) (l.lost, l.ws) := by
 have e1 : content (us ++ [(lv, ls)]) = content us ++ [ls.map fun l => (l.lost, l.ws)] := by unfold content; simp
 rw [e1, addL_snoc]
 unfold content; simp
theorem content_nil {cps : Cps} : content cps = [] ↔ cps = [] := by unfold content; simp
theorem parse_main (s : ByteArray) (m : Int) (w : World) (hE : Env m w) (hs : s.size ≤ 400) (hend : hasSuffix s.data.toList [10] = true) (hz : 2 ≤ (cutB 10 (trimB s)).length) : Calls Tryz.prog 120 #[.string s] w fun e w' => PPost s w e w' := by
 have hmf : ∀ (fn : Fn) (first cap : Array Value) (w : World), (Instr.makeFunc fn first cap).run Tryz.prog w = .ok (.func fn first cap) w := fun _ _ _ _ => rfl
 have htr := trim_end s hend
 have htz : (trimB s).size ≤ 400 := by
  have h := congrArg ByteArray.size htr
  rw [size_app] at h
  have e : ByteArray.size ⟨#[10]⟩ = 1 := rfl
  rw [e] at h
  show ByteArray.size ⟨(trimSuffix s.data.toList [10]).toArray⟩ ≤ 400
  omega
 have htrim : (⟨(trimSuffix s.data.toList [10]).toArray⟩ : ByteArray) = trimB s := rfl
 obtain ⟨T, hT⟩ : ∃ T, T = trimB s := ⟨_, rfl⟩
 obtain ⟨hc1, hc2⟩ := cutB_size 10 T
 have hpo : parseO s = if 2 ≤ (cutB 10 T).length then (foldO 0 (0, []) (cutB 10 T).dropLast).bind fun b => if (cutB 10 T).getLast? = some (endB (sB (cutB 10 T).dropLast)) then some b else none else none := by
  rw [hT]; unfold parseO; rw [if_pos hend]
 rw [← hT] at htz htrim
 have hcs := fun wx => Tryz.strings_CutSuffix s ⟨#[10]⟩ wx (by omega)
 have hsb : ((⟨#[10]⟩ : ByteArray).data.toList) = [10] := rfl
 simp only [hsb, hend, htrim] at hcs
 have hsp := fun wx hx => Tryz.strings_Split T ⟨#[10]⟩ m wx (by omega) hx (by decide)
 obtain ⟨N, hN⟩ : ∃ N, N = countB T ⟨#[10]⟩ := ⟨_, rfl⟩
 have hcut : cutB 10 T = splitB ⟨#[10]⟩ 0 N T := by rw [hN]; rfl
 have hlen : (cutB 10 T).length = N + 1 := by rw [hN]; exact countB_split 10 T
 simp only [← hN, ← hcut] at hsp
 obtain ⟨arr, harr⟩ : ∃ arr, arr = ((cutB 10 T).map Value.string).toArray := ⟨_, rfl⟩
 rw [← harr] at hsp
 have hN4 : N ≤ 400 := by omega
 have hB0 : Below w.heap.size w ((w.alloc (.cells #[.int .i64 0, .slice none 0 0] 24)).alloc (.cells #[.int .i64 0] 28)) := ((Below.refl _ w).alloc (Nat.le_refl _) _).alloc (by simp only [World.size_alloc]; omega) _
 have hB : Below w.heap.size w (((w.alloc (.cells #[.int .i64 0, .slice none 0 0] 24)).alloc (.cells #[.int .i64 0] 28)).alloc (.cells arr 9)) := hB0.alloc hB0.size _
 have gT : Blk (((w.alloc (.cells #[.int .i64 0, .slice none 0 0] 24)).alloc (.cells #[.int .i64 0] 28)).alloc (.cells arr 9)) w.heap.size 24 #[.int .i64 0, .slice none 0 0] := ((Blk.new w 24 #[.int .i64 0, .slice none 0 0]).alloc _).alloc _
 have gE : Blk (((w.alloc (.cells #[.int .i64 0, .slice none 0 0] 24)).alloc (.cells #[.int .i64 0] 28)).alloc (.cells arr 9)) (w.heap.size + 1) 28 #[.int .i64 0] := (blk2 w _ 28 #[.int .i64 0]).alloc _
 have gL : Blk (((w.alloc (.cells #[.int .i64 0, .slice none 0 0] 24)).alloc (.cells #[.int .i64 0] 28)).alloc (.cells arr 9)) (w.heap.size + 1 + 1) 9 arr := by have h := Blk.new ((w.alloc (.cells #[.int .i64 0, .slice none 0 0] 24)).alloc (.cells #[.int .i64 0] 28)) 9 arr; simpa only [World.size_alloc] using h
 have hL2 := hsp _ (hE.below hB0).1
 simp only [World.size_alloc] at hL2
 clear hsp
 have hN1 : 1 ≤ N := by rw [← hT] at hz; omega
 obtain ⟨Lp, le, hLp⟩ : ∃ Lp le, cutB 10 T = Lp ++ [le] := ⟨(cutB 10 T).dropLast, (cutB 10 T).getLast (by intro e; rw [e] at hlen; cases hlen), (List.dropLast_concat_getLast _).symm⟩
 have hLl : Lp.length = N := by rw [hLp] at hlen; simpa using hlen
 have hpo2 : parseO s = (foldO 0 (0, []) Lp).bind fun b => if le = endB (sB Lp) then some b else none := by
  rw [hpo, if_pos (by omega), hLp, List.dropLast_concat, List.getLast?_concat]
  simp only [Option.some.injEq]
 have hsz : ∀ x ∈ Lp, x.size ≤ 400 := fun x hx => by have := hc2 x (by rw [hLp]; exact List.mem_append_left _ hx); omega
 have hqk : ∀ k (hk : k < Lp.length), arr[k]? = some (.string Lp[k]) := fun k hk => by
  rw [harr, hLp, List.getElem?_toArray, List.getElem?_map, List.getElem?_append_left hk, List.getElem?_eq_getElem hk]; rfl
 have hql : arr[N]? = some (.string le) := by
  rw [harr, hLp, List.getElem?_toArray, List.getElem?_map, List.getElem?_append_right (by omega), hLl, Nat.sub_self]; rfl
 have hsum : sumA Lp 0 0 = (sB Lp : Nat) := by
  have h0 := sumA_ok Lp 0 0 (Int.le_refl _) (by omega) (fun r hr => by have := hsz r hr; omega) (Int.le_refl _) (by omega)
  unfold sB; omega
 have hRd : ∀ wx, Blk wx (w.heap.size + 1 + 1) 9 arr → Rd wx wx.heap.size 1 (some ⟨w.heap.size + 1 + 1, 0, none⟩) N (Lp.map Value.string) := fun wx hx => by
  rw [← hLl]; rw [harr, hLp] at hx; exact Rd_init hx hx.lt
 have hend2 := fun (A : Option Addr) (cap : Nat) wx hr hx => endOf_any A N cap Lp (sB Lp) m wx (by omega) (fun r hr => by have := hsz r hr; omega) hr hsum hx
 have hee : jnS [wEnd, dgt3 (sB Lp % 197)] ⟨#[32]⟩ = endB (sB Lp) := rfl
 rw [hee] at hend2
 have hsl2 := run_slice_hi (P := Tryz.prog) 173 9 1 Tryz.underlying173 (fun _ => by kernel_rfl) (w.heap.size + 1 + 1) (N + 1) (N + 1) .i64 N (by omega) (by omega)
 have hge1 : (1 : Int) ≤ (N : Int) := by omega
 have hpl := fun k (hk : k < Lp.length) wx hx => parseLine_any Lp[k] m wx (by have := hsz _ (List.getElem_mem hk); omega) hx
 have HCS := Lib.hid hcs; have HL2 := Lib.hid hL2; have HPO := Lib.hid hpo2; have HLl := Lib.hid hLl; have HSZ := Lib.hid hsz; have HQK := Lib.hid hqk; have HQL := Lib.hid hql; have HRD := Lib.hid hRd; have HEN := Lib.hid hend2; have HPL := Lib.hid hpl
 clear hcs hL2 hpo hpo2 hlen hcut harr hN hT htrim htr htz hc1 hc2 hz hend hs hsb hLp hLl hsz hqk hql hsum hRd hend2 hee hpl
 have hcp : CpsOk (((w.alloc (.cells #[.int .i64 0, .slice none 0 0] 24)).alloc (.cells #[.int .i64 0] 28)).alloc (.cells arr 9)) (w.heap.size + 1 + 1 + 1) (.slice none 0 0) [] := CpsOk.nil _ _
 have hZ9 : (((w.alloc (.cells #[.int .i64 0, .slice none 0 0] 24)).alloc (.cells #[.int .i64 0] 28)).alloc (.cells arr 9)).heap.size = (w.heap.size + 1 + 1 + 1) := by simp only [World.size_alloc]
 go_enter_defers Tryz.func120, Tryz.ntmps120
 go_wp2_with fail
 refine (HCS.out _).mono ?_; rintro e w1 ⟨rfl, rfl⟩
 go_wp2_with fail
 refine (insist_ok _).mono ?_; rintro e w1 ⟨rfl, rfl⟩
 go_wp2_with fail
 refine HL2.out.mono ?_; rintro e w1 ⟨rfl, rfl⟩
 go_wp2_with fail
 refine (insist_ok _).mono ?_; rintro e w1 ⟨rfl, rfl⟩
 generalize ((w.alloc (.cells #[.int .i64 0, .slice none 0 0] 24)).alloc (.cells #[.int .i64 0] 28)).alloc (.cells arr 9) = W0 at *
 have hS0 : (w.heap.size + 1 + 1 + 1) ≤ W0.heap.size := by omega
 clear hZ9
 go_wp2_with fail
 go_loopg [31] N (fun g i wr => ∃ (k Wn : Nat) (v : Value) (cps : Cps), g = N - k ∧ k ≤ N ∧ i = .int .i64 k ∧ Hid (foldO 0 (0, []) Lp = foldO k (Wn, content cps) (Lp.drop k)) ∧ Hid (StOk cps k) ∧ CpsOk wr (w.heap.size + 1 + 1 + 1) v cps ∧ Blk wr w.heap.size 24 #[.int .i64 (Wn : Int), v] ∧ Blk wr (w.heap.size + 1) 28 #[.int .i64 0] ∧ Blk wr (w.heap.size + 1 + 1) 9 arr ∧ Below w.heap.size w wr ∧ (w.heap.size + 1 + 1 + 1) ≤ wr.heap.size)
 case atStart => exact ⟨0, 0, _, [], rfl, Nat.zero_le _, rfl, Lib.hid rfl, Lib.hid ⟨Nat.le_refl _, fun c h => by cases h⟩, hcp, gT, gE, gL, hB, hS0⟩
 case round =>
  clear hcp gT gE gL hB hS0
  obtain ⟨k, Wn, v, cps, hg, hk, rfl, hf, hst, hcp, gT, gE, gL, hB, hS0⟩ := hrel
  have HG := Lib.hid hg; clear hg
  rename World => W2
  obtain ⟨va, vc, rfl⟩ := own_slice hcp.1
  by_cases hlt : k < N
  ·have hlti : (k : Int) < N := by omega
   have hzk : k < Lp.length := by rw [HLl.out]; exact hlt
   have hck := (gL.cell k).trans (HQK.out k hzk)
   have hdr : Lp.drop k = Lp[k] :: Lp.drop (k + 1) := List.drop_eq_getElem_cons hzk
   have hpl := HPL.out k hzk W2 (hE.below hB)
   have hxz := HSZ.out _ (List.getElem_mem hzk)
   have hf2 := hf.out
   rw [hdr] at hf2
   simp only [foldO] at hf2
   have hlL := gL.lt
   generalize Lp[k] = x at *
   have HF := Lib.hid hf2; have HP := Lib.hid hpl; clear hf2 hpl hdr hf
   cases hx : lineO x with
   | none =>
    have hno : parseO s = none := by rw [HPO.out, HF.out, hx]; rfl
    have HNO := Lib.hid hno; have HX := Lib.hid hx; clear hno hx
    go_wp2_with fail
    refine HP.out.mono ?_
    rintro e w3 ⟨hb, hq⟩
    rw [HX.out] at hq
    obtain rfl : e = BADv := hq
    replace gT := gT.below hb gT.lt; replace gE := gE.below hb gE.lt; replace gL := gL.below hb gL.lt; replace hcp := hcp.of_gb hb; replace hB := hB.trans (hb.mono hB.size); replace hS0 := Nat.le_trans hS0 hb.size; clear hb
    go_wp2_with fail
    rename_i chain heq
    unfold BADv at heq
    cases heq
    exact parse_leaves s w _ _ rfl rfl ⟨⟨_, _, gT⟩, ⟨_, gE⟩, hB⟩ HNO.out
   | some t =>
    have hf3 : foldO 0 (0, []) Lp = (stepO k (Wn, content cps) t).bind fun b' => foldO (k + 1) b' (Lp.drop (k + 1)) := by rw [HF.out, hx]; rfl
    have HF3 := Lib.hid hf3; have HX := Lib.hid hx; clear hf3
    go_wp2_with fail
    refine HP.out.mono ?_
    rintro e w3 ⟨hb, hq⟩
    rw [HX.out] at hq
    obtain ⟨v1, rfl, hv1⟩ := hq
    have hSW := hS0
    replace gT := gT.below hb gT.lt; replace gE := gE.below hb gE.lt; replace gL := gL.below hb gL.lt; replace hcp := hcp.of_gb hb; replace hB := hB.trans (hb.mono hB.size); replace hS0 := Nat.le_trans hS0 hb.size; clear hb
    clear hck hlL HP
    cases t with
    | book a =>
     obtain rfl : v1 = .iface 251 (.agg #[.int .i64 a]) := hv1
     clear hx
     have hm : ∀ w, (method 425 251 (.agg #[.int .i64 a]) "kelir/version.first").run Tryz.prog w = .ok (256, .agg #[.int .i64 a]) w := fun _ => by kernel_rfl
     by_cases hk0 : k = 0
     ·subst hk0
      go_wp2_with fail
      refine (first_book _ _).mono ?_; rintro e w4 ⟨rfl, hb⟩; replace gT := gT.below hb gT.lt; replace gE := gE.below hb gE.lt; replace gL := gL.below hb gL.lt; replace hcp := hcp.of_gb hb; replace hB := hB.trans (hb.mono hB.size); replace hS0 := Nat.le_trans hS0 hb.size; clear hb
      go_wp2_with fail
      refine (insist_ok _).mono ?_; rintro e w5 ⟨rfl, rfl⟩
      have qT := fun i => gT.cell i; have fT := fun i => gT.frozen i; have lT := gT.lt
      go_wp2_with fail
      refine (with_book _ _ _ _ _ _).mono ?_; rintro e w6 ⟨rfl, hb⟩; clear qT fT lT; replace gT := gT.below hb gT.lt; replace gE := gE.below hb gE.lt; replace gL := gL.below hb gL.lt; replace hcp := hcp.of_gb hb; replace hB := hB.trans (hb.mono hB.size); replace hS0 := Nat.le_trans hS0 hb.size; clear hb
      have qT := fun i => gT.cell i; have fT := fun i => gT.frozen i; have lT := gT.lt
      go_wp2_with fail
      replace gT := (gT.set_ 0 (.int .i64 (a : Int))).set_ 1 (.slice va cps.length vc)
      replace gT : Blk ((w6.setCell ⟨w.heap.size, 0, none⟩ (.int .i64 (a : Int))).setCell ⟨w.heap.size, 1, none⟩ (.slice va cps.length vc)) w.heap.size 24 #[.int .i64 (a : Int), .slice va cps.length vc] := by simpa using gT
      replace gE := (gE.far (p := ⟨w.heap.size, 0, none⟩) (show w.heap.size + 1 ≠ w.heap.size by omega) (.int .i64 (a : Int))).far (p := ⟨w.heap.size, 1, none⟩) (show w.heap.size + 1 ≠ w.heap.size by omega) (.slice va cps.length vc)
      replace gL := (gL.far (p := ⟨w.heap.size, 0, none⟩) (show w.heap.size + 1 + 1 ≠ w.heap.size by omega) (.int .i64 (a : Int))).far (p := ⟨w.heap.size, 1, none⟩) (show w.heap.size + 1 + 1 ≠ w.heap.size by omega) (.slice va cps.length vc)
      replace hcp := (hcp.set (a := ⟨w.heap.size, 0, none⟩) (show w.heap.size < (w.heap.size + 1 + 1 + 1) by omega) (.int .i64 (a : Int))).set (a := ⟨w.heap.size, 1, none⟩) (show w.heap.size < (w.heap.size + 1 + 1 + 1) by omega) (.slice va cps.length vc)
      replace hB := (hB.setCell (p := ⟨w.heap.size, 0, none⟩) (Nat.le_refl w.heap.size) (.int .i64 (a : Int))).setCell (p := ⟨w.heap.size, 1, none⟩) (Nat.le_refl w.heap.size) (.slice va cps.length vc)
      have hS9 : (w.heap.size + 1 + 1 + 1) ≤ ((w6.setCell ⟨w.heap.size, 0, none⟩ (.int .i64 (a : Int))).setCell ⟨w.heap.size, 1, none⟩ (.slice va cps.length vc)).heap.size := by simpa using hS0
      clear qT fT lT
      go_roundg (N - (0 + 1))
      case measure => rw [HG.out]; omega
      case rel => exact ⟨0 + 1, a, _, cps, rfl, by omega, by go_num, Lib.hid (by rw [HF3.out]; simp [stepO]), Lib.hid (hst.out.up), hcp, gT, gE, gL, hB, hS9⟩
     ·have hkb : ((k : Int) == 0) = false := by simp; omega
      have hno : parseO s = none := by rw [HPO.out, HF3.out]; simp only [stepO]; rw [if_neg hk0]; rfl
      have HNO := Lib.hid hno; clear hno
      go_wp2_with fail
      refine (first_book _ _).mono ?_; rintro e w4 ⟨rfl, hb⟩; replace gT := gT.below hb gT.lt; replace gE := gE.below hb gE.lt; replace gL := gL.below hb gL.lt; replace hcp := hcp.of_gb hb; replace hB := hB.trans (hb.mono hB.size); replace hS0 := Nat.le_trans hS0 hb.size; clear hb
      go_wp2_with fail
      refine (insist_bad _).mono ?_; rintro e w5 ⟨rfl, rfl⟩
      go_wp2_with fail
      rename_i chain heq
      unfold BADv at heq
      cases heq
      exact parse_leaves s w _ _ rfl rfl ⟨⟨_, _, gT⟩, ⟨_, gE⟩, hB⟩ HNO.out
    | copy =>
     obtain rfl : v1 = .iface 252 (.agg #[]) := hv1
     clear hx
     have hm : ∀ w, (method 425 252 (.agg #[]) "kelir/version.first").run Tryz.prog w = .ok (257, .agg #[]) w := fun _ => by kernel_rfl
     by_cases hk0 : k = 0
     ·subst hk0
      have hno : parseO s = none := by rw [HPO.out, HF3.out]; simp only [stepO]; rfl
      have HNO := Lib.hid hno; clear hno
      go_wp2_with fail
      refine (first_copy _).mono ?_; rintro e w4 ⟨rfl, hb⟩; replace gT := gT.below hb gT.lt; replace gE := gE.below hb gE.lt; replace gL := gL.below hb gL.lt; replace hcp := hcp.of_gb hb; replace hB := hB.trans (hb.mono hB.size); replace hS0 := Nat.le_trans hS0 hb.size; clear hb
      go_wp2_with fail
      refine (insist_bad _).mono ?_; rintro e w5 ⟨rfl, rfl⟩
      go_wp2_with fail
      rename_i chain heq
      unfold BADv at heq
      cases heq
      exact parse_leaves s w _ _ rfl rfl ⟨⟨_, _, gT⟩, ⟨_, gE⟩, hB⟩ HNO.out
     ·have hkb : ((k : Int) == 0) = false := by simp; omega
      go_wp2_with fail
      refine (first_copy _).mono ?_; rintro e w4 ⟨rfl, hb⟩; replace gT := gT.below hb gT.lt; replace gE := gE.below hb gE.lt; replace gL := gL.below hb gL.lt; replace hcp := hcp.of_gb hb; replace hB := hB.trans (hb.mono hB.size); replace hS0 := Nat.le_trans hS0 hb.size; clear hb
      go_wp2_with fail
      refine (insist_ok _).mono ?_; rintro e w5 ⟨rfl, rfl⟩
      have qT := fun i => gT.cell i; have fT := fun i => gT.frozen i; have lT := gT.lt
      have hwc := with_copy (Wn : Int) va cps.length vc (w.heap.size + 1 + 1 + 1) (cps.map Prod.fst) w4 (by have := hst.out.1; omega) hS0 hcp.1
      have hr1 := fun z hz => (hcp.1.lt z hz).1
      have HWC := Lib.hid hwc; have HR1 := Lib.hid hr1; clear hwc hr1
      go_wp2_with fail
      refine HWC.out.mono ?_; rintro e w6 ⟨v6, rfl, ho6, hg6⟩
      replace hcp := hcp.copy ho6 hg6
      replace gT := hg6.blk gT (fun e => by have := HR1.out _ e.symm; omega) (by simp); replace gE := hg6.blk gE (fun e => by have := HR1.out _ e.symm; omega) (by simp); replace gL := hg6.blk gL (fun e => by have := HR1.out _ e.symm; omega) (by simp)
      replace hB := hg6.to_below hB hB.size (fun z e => by have := HR1.out z e; omega) (fun z e => by cases e)
      replace hS0 := Nat.le_trans hS0 hg6.size
      obtain ⟨ua, uc, rfl⟩ := own_slice ho6
      clear qT fT lT
      have qT := fun i => gT.cell i; have fT := fun i => gT.frozen i; have lT := gT.lt
      go_wp2_with fail
      replace gT := (gT.set_ 0 (.int .i64 (Wn : Int))).set_ 1 (.slice ua (cps.length + 1) uc)
      replace gT : Blk ((w6.setCell ⟨w.heap.size, 0, none⟩ (.int .i64 (Wn : Int))).setCell ⟨w.heap.size, 1, none⟩ (.slice ua (cps.length + 1) uc)) w.heap.size 24 #[.int .i64 (Wn : Int), .slice ua (cps.length + 1) uc] := by simpa using gT
      replace gE := (gE.far (p := ⟨w.heap.size, 0, none⟩) (show w.heap.size + 1 ≠ w.heap.size by omega) (.int .i64 (Wn : Int))).far (p := ⟨w.heap.size, 1, none⟩) (show w.heap.size + 1 ≠ w.heap.size by omega) (.slice ua (cps.length + 1) uc)
      replace gL := (gL.far (p := ⟨w.heap.size, 0, none⟩) (show w.heap.size + 1 + 1 ≠ w.heap.size by omega) (.int .i64 (Wn : Int))).far (p := ⟨w.heap.size, 1, none⟩) (show w.heap.size + 1 + 1 ≠ w.heap.size by omega) (.slice ua (cps.length + 1) uc)
      replace hcp := (hcp.set (a := ⟨w.heap.size, 0, none⟩) (show w.heap.size < (w.heap.size + 1 + 1 + 1) by omega) (.int .i64 (Wn : Int))).set (a := ⟨w.heap.size, 1, none⟩) (show w.heap.size < (w.heap.size + 1 + 1 + 1) by omega) (.slice ua (cps.length + 1) uc)
      replace hB := (hB.setCell (p := ⟨w.heap.size, 0, none⟩) (Nat.le_refl w.heap.size) (.int .i64 (Wn : Int))).setCell (p := ⟨w.heap.size, 1, none⟩) (Nat.le_refl w.heap.size) (.slice ua (cps.length + 1) uc)
      have hS9 : (w.heap.size + 1 + 1 + 1) ≤ ((w6.setCell ⟨w.heap.size, 0, none⟩ (.int .i64 (Wn : Int))).setCell ⟨w.heap.size, 1, none⟩ (.slice ua (cps.length + 1) uc)).heap.size := by simpa using hS0
      clear qT fT lT
      go_roundg (N - (k + 1))
      case measure => rw [HG.out]; omega
      case rel => exact ⟨k + 1, Wn, _, _, rfl, by omega, by go_num, Lib.hid (by rw [HF3.out, content_copy]; simp [stepO, hk0]), Lib.hid (hst.out.copy), hcp, gT, gE, gL, hB, hS9⟩
    | line ws =>
     obtain ⟨u, hu, hown⟩ := hv1
     subst hu
     replace hown := own_mono hown hSW
     obtain ⟨ua, uc, rfl⟩ := own_slice hown
     have hsm := lineO_small hx
     have HSM := Lib.hid (show ws.length ≤ 1000 ∧ ∀ a ∈ ws, a < 100 from ⟨by omega, hsm.2⟩); clear hsm
     clear hx
     have hm : ∀ w, (method 425 255 (.agg #[.slice ua ws.length uc]) "kelir/version.first").run Tryz.prog w = .ok (259, .agg #[.slice ua ws.length uc]) w := fun _ => by kernel_rfl
     by_cases hk0 : k = 0
     ·subst hk0
      have hno : parseO s = none := by rw [HPO.out, HF3.out]; simp only [stepO]; rfl
      have HNO := Lib.hid hno; clear hno
      go_wp2_with fail
      refine (first_line _ _).mono ?_; rintro e w4 ⟨rfl, hb⟩; replace gT := gT.below hb gT.lt; replace gE := gE.below hb gE.lt; replace gL := gL.below hb gL.lt; replace hcp := hcp.of_gb hb; replace hB := hB.trans (hb.mono hB.size); replace hS0 := Nat.le_trans hS0 hb.size; replace hown := ownsRow_below' hown hb; clear hb
      go_wp2_with fail
      refine (insist_bad _).mono ?_; rintro e w5 ⟨rfl, rfl⟩
      go_wp2_with fail
      rename_i chain heq
      unfold BADv at heq
      cases heq
      exact parse_leaves s w _ _ rfl rfl ⟨⟨_, _, gT⟩, ⟨_, gE⟩, hB⟩ HNO.out
     ·have hkb : ((k : Int) == 0) = false := by simp; omega
      rcases List.eq_nil_or_concat cps with hcn | ⟨us, cl, hcn⟩
      ·subst hcn
       have hno : parseO s = none := by rw [HPO.out, HF3.out]; simp only [stepO]; rw [if_neg hk0]; rfl
       have HNO := Lib.hid hno; clear hno
       go_wp2_with fail
       refine (first_line _ _).mono ?_; rintro e w4 ⟨rfl, hb⟩; replace gT := gT.below hb gT.lt; replace gE := gE.below hb gE.lt; replace gL := gL.below hb gL.lt; replace hcp := hcp.of_gb hb; replace hB := hB.trans (hb.mono hB.size); replace hS0 := Nat.le_trans hS0 hb.size; replace hown := ownsRow_below' hown hb; clear hb
       go_wp2_with fail
       refine (insist_ok _).mono ?_; rintro e w5 ⟨rfl, rfl⟩
       have qT := fun i => gT.cell i; have fT := fun i => gT.frozen i; have lT := gT.lt
       go_wp2_with fail
       refine (with_line_bad _ _ _ ua ws.length uc _).mono ?_; rintro e w6 ⟨rfl, hb⟩; clear qT fT lT; replace gT := gT.below hb gT.lt; replace gE := gE.below hb gE.lt; replace gL := gL.below hb gL.lt; replace hcp := hcp.of_gb hb; replace hB := hB.trans (hb.mono hB.size); replace hS0 := Nat.le_trans hS0 hb.size; clear hb
       go_wp2_with fail
       rename_i chain heq
       unfold BADv at heq
       cases heq
       exact parse_leaves s w _ _ rfl rfl ⟨⟨_, _, gT⟩, ⟨_, gE⟩, hB⟩ HNO.out
      ·obtain ⟨lv, ls⟩ := cl
       rw [List.concat_eq_append] at hcn
       subst hcn
       have hlen1 : (us ++ [(lv, ls)]).length = us.length + 1 := by simp
       have hcp1 := hcp.1
       have hus := hst.out.1
       have hls := (hst.out.2 (lv, ls) (by simp)).1
       rw [hlen1] at hus
       obtain ⟨g, rfl⟩ := own_ad hcp1 (by simp)
       simp only [hlen1] at hcp gT hcp1 ⊢
       go_wp2_with fail
       refine (first_line _ _).mono ?_; rintro e w4 ⟨rfl, hb⟩; replace gT := gT.below hb gT.lt; replace gE := gE.below hb gE.lt; replace gL := gL.below hb gL.lt; replace hcp := hcp.of_gb hb; replace hB := hB.trans (hb.mono hB.size); replace hS0 := Nat.le_trans hS0 hb.size; replace hown := ownsRow_below' hown hb; clear hb
       go_wp2_with fail
       refine (insist_ok _).mono ?_; rintro e w5 ⟨rfl, rfl⟩
       have qT := fun i => gT.cell i; have fT := fun i => gT.frozen i; have lT := gT.lt
       have hwc := with_line (Wn : Int) g us.length vc (us.map Prod.fst) lv ls.length (ls.flatMap CL.cells) ua ws.length uc (w.heap.size + 1 + 1 + 1) w4 (by omega) (by omega) (by simp) (by simpa using hcp.1) (hcp.2.1 (lv, ls) (by simp)).1 hS0
       have hr1 := fun z hz => (hcp.1.lt z hz).1
       have hr2 := fun z hz => ((hcp.2.1 (lv, ls) (by simp)).1.lt z hz).1
       have HWC := Lib.hid hwc; have HR1 := Lib.hid hr1; have HR2 := Lib.hid hr2; clear hwc hr1 hr2
       go_wp2_with fail
       refine HWC.out.mono ?_; rintro e w6 ⟨lv6, rfl, ho6, hv6, hg6, hob6⟩
       have hgS := HR1.out g rfl
       replace hcp := hcp.line (l := ⟨false, .slice ua ws.length uc, ws⟩) hown (by simpa using ho6) hv6 hg6 hob6
       replace gT := hg6.blk gT (fun e => by cases e; omega) (fun e => by have := HR2.out _ e.symm; omega); replace gE := hg6.blk gE (fun e => by cases e; omega) (fun e => by have := HR2.out _ e.symm; omega); replace gL := hg6.blk gL (fun e => by cases e; omega) (fun e => by have := HR2.out _ e.symm; omega)
       replace hB := hg6.to_below hB hB.size (fun z e => by cases e; omega) (fun z e => by have := HR2.out z e; omega)
       replace hS0 := Nat.le_trans hS0 hg6.size
       clear qT fT lT
       have qT := fun i => gT.cell i; have fT := fun i => gT.frozen i; have lT := gT.lt
       go_wp2_with fail
       replace gT := (gT.set_ 0 (.int .i64 (Wn : Int))).set_ 1 (.slice (some ⟨g, 0, none⟩) (us.length + 1) vc)
       replace gT : Blk ((w6.setCell ⟨w.heap.size, 0, none⟩ (.int .i64 (Wn : Int))).setCell ⟨w.heap.size, 1, none⟩ (.slice (some ⟨g, 0, none⟩) (us.length + 1) vc)) w.heap.size 24 #[.int .i64 (Wn : Int), .slice (some ⟨g, 0, none⟩) (us.length + 1) vc] := by simpa using gT
       replace gE := (gE.far (p := ⟨w.heap.size, 0, none⟩) (show w.heap.size + 1 ≠ w.heap.size by omega) (.int .i64 (Wn : Int))).far (p := ⟨w.heap.size, 1, none⟩) (show w.heap.size + 1 ≠ w.heap.size by omega) (.slice (some ⟨g, 0, none⟩) (us.length + 1) vc)
       replace gL := (gL.far (p := ⟨w.heap.size, 0, none⟩) (show w.heap.size + 1 + 1 ≠ w.heap.size by omega) (.int .i64 (Wn : Int))).far (p := ⟨w.heap.size, 1, none⟩) (show w.heap.size + 1 + 1 ≠ w.heap.size by omega) (.slice (some ⟨g, 0, none⟩) (us.length + 1) vc)
       replace hcp := (hcp.set (a := ⟨w.heap.size, 0, none⟩) (show w.heap.size < (w.heap.size + 1 + 1 + 1) by omega) (.int .i64 (Wn : Int))).set (a := ⟨w.heap.size, 1, none⟩) (show w.heap.size < (w.heap.size + 1 + 1 + 1) by omega) (.slice (some ⟨g, 0, none⟩) (us.length + 1) vc)
       replace hB := (hB.setCell (p := ⟨w.heap.size, 0, none⟩) (Nat.le_refl w.heap.size) (.int .i64 (Wn : Int))).setCell (p := ⟨w.heap.size, 1, none⟩) (Nat.le_refl w.heap.size) (.slice (some ⟨g, 0, none⟩) (us.length + 1) vc)
       have hS9 : (w.heap.size + 1 + 1 + 1) ≤ ((w6.setCell ⟨w.heap.size, 0, none⟩ (.int .i64 (Wn : Int))).setCell ⟨w.heap.size, 1, none⟩ (.slice (some ⟨g, 0, none⟩) (us.length + 1) vc)).heap.size := by simpa using hS0
       clear qT fT lT
       go_roundg (N - (k + 1))
       case measure => rw [HG.out]; omega
       case rel => exact ⟨k + 1, Wn, _, _, rfl, by omega, by go_num, Lib.hid (by rw [HF3.out, content_line us lv]; simp [stepO, hk0, content_nil]), Lib.hid (hst.out.line HSM.out), hcp, gT, gE, gL, hB, hS9⟩
    | lost =>
     obtain rfl : v1 = .iface 253 (.agg #[]) := hv1
     clear hx
     have hm : ∀ w, (method 425 253 (.agg #[]) "kelir/version.first").run Tryz.prog w = .ok (258, .agg #[]) w := fun _ => by kernel_rfl
     by_cases hk0 : k = 0
     ·subst hk0
      have hno : parseO s = none := by rw [HPO.out, HF3.out]; simp only [stepO]; rfl
      have HNO := Lib.hid hno; clear hno
      go_wp2_with fail
      refine (first_lost _).mono ?_; rintro e w4 ⟨rfl, hb⟩; replace gT := gT.below hb gT.lt; replace gE := gE.below hb gE.lt; replace gL := gL.below hb gL.lt; replace hcp := hcp.of_gb hb; replace hB := hB.trans (hb.mono hB.size); replace hS0 := Nat.le_trans hS0 hb.size; clear hb
      go_wp2_with fail
      refine (insist_bad _).mono ?_; rintro e w5 ⟨rfl, rfl⟩
      go_wp2_with fail
      rename_i chain heq
      unfold BADv at heq
      cases heq
      exact parse_leaves s w _ _ rfl rfl ⟨⟨_, _, gT⟩, ⟨_, gE⟩, hB⟩ HNO.out
     ·have hkb : ((k : Int) == 0) = false := by simp; omega
      rcases List.eq_nil_or_concat cps with hcn | ⟨us, cl, hcn⟩
      ·subst hcn
       have hno : parseO s = none := by rw [HPO.out, HF3.out]; simp only [stepO]; rw [if_neg hk0]; rfl
       have HNO := Lib.hid hno; clear hno
       go_wp2_with fail
       refine (first_lost _).mono ?_; rintro e w4 ⟨rfl, hb⟩; replace gT := gT.below hb gT.lt; replace gE := gE.below hb gE.lt; replace gL := gL.below hb gL.lt; replace hcp := hcp.of_gb hb; replace hB := hB.trans (hb.mono hB.size); replace hS0 := Nat.le_trans hS0 hb.size; clear hb
       go_wp2_with fail
       refine (insist_ok _).mono ?_; rintro e w5 ⟨rfl, rfl⟩
       have qT := fun i => gT.cell i; have fT := fun i => gT.frozen i; have lT := gT.lt
       go_wp2_with fail
       refine (with_lost_bad _ _ _ _).mono ?_; rintro e w6 ⟨rfl, hb⟩; clear qT fT lT; replace gT := gT.below hb gT.lt; replace gE := gE.below hb gE.lt; replace gL := gL.below hb gL.lt; replace hcp := hcp.of_gb hb; replace hB := hB.trans (hb.mono hB.size); replace hS0 := Nat.le_trans hS0 hb.size; clear hb
       go_wp2_with fail
       rename_i chain heq
       unfold BADv at heq
       cases heq
       exact parse_leaves s w _ _ rfl rfl ⟨⟨_, _, gT⟩, ⟨_, gE⟩, hB⟩ HNO.out
      ·obtain ⟨lv, ls⟩ := cl
       rw [List.concat_eq_append] at hcn
       subst hcn
       have hlen1 : (us ++ [(lv, ls)]).length = us.length + 1 := by simp
       have hcp1 := hcp.1
       have hus := hst.out.1
       have hls := (hst.out.2 (lv, ls) (by simp)).1
       rw [hlen1] at hus
       obtain ⟨g, rfl⟩ := own_ad hcp1 (by simp)
       simp only [hlen1] at hcp gT hcp1 ⊢
       go_wp2_with fail
       refine (first_lost _).mono ?_; rintro e w4 ⟨rfl, hb⟩; replace gT := gT.below hb gT.lt; replace gE := gE.below hb gE.lt; replace gL := gL.below hb gL.lt; replace hcp := hcp.of_gb hb; replace hB := hB.trans (hb.mono hB.size); replace hS0 := Nat.le_trans hS0 hb.size; clear hb
       go_wp2_with fail
       refine (insist_ok _).mono ?_; rintro e w5 ⟨rfl, rfl⟩
       have qT := fun i => gT.cell i; have fT := fun i => gT.frozen i; have lT := gT.lt
       have hwc := with_lost (Wn : Int) g us.length vc (us.map Prod.fst) lv ls.length (ls.flatMap CL.cells) (w.heap.size + 1 + 1 + 1) w4 (by omega) (by omega) (by simp) (by simpa using hcp.1) (hcp.2.1 (lv, ls) (by simp)).1 hS0
       have hr1 := fun z hz => (hcp.1.lt z hz).1
       have hr2 := fun z hz => ((hcp.2.1 (lv, ls) (by simp)).1.lt z hz).1
       have HWC := Lib.hid hwc; have HR1 := Lib.hid hr1; have HR2 := Lib.hid hr2; clear hwc hr1 hr2
       go_wp2_with fail
       refine HWC.out.mono ?_; rintro e w6 ⟨lv6, rfl, ho6, hv6, hg6, hob6⟩
       have hgS := HR1.out g rfl
       replace hcp := hcp.line (l := ⟨true, .slice none 0 0, []⟩) (World.ownsRow_nil _ _ _ _) (by simpa using ho6) hv6 hg6 hob6
       replace gT := hg6.blk gT (fun e => by cases e; omega) (fun e => by have := HR2.out _ e.symm; omega); replace gE := hg6.blk gE (fun e => by cases e; omega) (fun e => by have := HR2.out _ e.symm; omega); replace gL := hg6.blk gL (fun e => by cases e; omega) (fun e => by have := HR2.out _ e.symm; omega)
       replace hB := hg6.to_below hB hB.size (fun z e => by cases e; omega) (fun z e => by have := HR2.out z e; omega)
       replace hS0 := Nat.le_trans hS0 hg6.size
       clear qT fT lT
       have qT := fun i => gT.cell i; have fT := fun i => gT.frozen i; have lT := gT.lt
       go_wp2_with fail
       replace gT := (gT.set_ 0 (.int .i64 (Wn : Int))).set_ 1 (.slice (some ⟨g, 0, none⟩) (us.length + 1) vc)
       replace gT : Blk ((w6.setCell ⟨w.heap.size, 0, none⟩ (.int .i64 (Wn : Int))).setCell ⟨w.heap.size, 1, none⟩ (.slice (some ⟨g, 0, none⟩) (us.length + 1) vc)) w.heap.size 24 #[.int .i64 (Wn : Int), .slice (some ⟨g, 0, none⟩) (us.length + 1) vc] := by simpa using gT
       replace gE := (gE.far (p := ⟨w.heap.size, 0, none⟩) (show w.heap.size + 1 ≠ w.heap.size by omega) (.int .i64 (Wn : Int))).far (p := ⟨w.heap.size, 1, none⟩) (show w.heap.size + 1 ≠ w.heap.size by omega) (.slice (some ⟨g, 0, none⟩) (us.length + 1) vc)
       replace gL := (gL.far (p := ⟨w.heap.size, 0, none⟩) (show w.heap.size + 1 + 1 ≠ w.heap.size by omega) (.int .i64 (Wn : Int))).far (p := ⟨w.heap.size, 1, none⟩) (show w.heap.size + 1 + 1 ≠ w.heap.size by omega) (.slice (some ⟨g, 0, none⟩) (us.length + 1) vc)
       replace hcp := (hcp.set (a := ⟨w.heap.size, 0, none⟩) (show w.heap.size < (w.heap.size + 1 + 1 + 1) by omega) (.int .i64 (Wn : Int))).set (a := ⟨w.heap.size, 1, none⟩) (show w.heap.size < (w.heap.size + 1 + 1 + 1) by omega) (.slice (some ⟨g, 0, none⟩) (us.length + 1) vc)
       replace hB := (hB.setCell (p := ⟨w.heap.size, 0, none⟩) (Nat.le_refl w.heap.size) (.int .i64 (Wn : Int))).setCell (p := ⟨w.heap.size, 1, none⟩) (Nat.le_refl w.heap.size) (.slice (some ⟨g, 0, none⟩) (us.length + 1) vc)
       have hS9 : (w.heap.size + 1 + 1 + 1) ≤ ((w6.setCell ⟨w.heap.size, 0, none⟩ (.int .i64 (Wn : Int))).setCell ⟨w.heap.size, 1, none⟩ (.slice (some ⟨g, 0, none⟩) (us.length + 1) vc)).heap.size := by simpa using hS0
       clear qT fT lT
       go_roundg (N - (k + 1))
       case measure => rw [HG.out]; omega
       case rel => exact ⟨k + 1, Wn, _, _, rfl, by omega, by go_num, Lib.hid (by rw [HF3.out, content_line us lv]; simp [stepO, hk0, content_nil]), Lib.hid (hst.out.line ⟨Nat.zero_le _, fun a h => by cases h⟩), hcp, gT, gE, gL, hB, hS9⟩
  ·obtain rfl : k = N := by omega
   have hge : ¬ (k : Int) < k := by omega
   have hfo : foldO 0 (0, []) Lp = some (Wn, content cps) := by
    have h := hf.out
    rw [List.drop_of_length_le (by rw [HLl.out]; exact Nat.le_refl _)] at h
    exact h
   have HFO := Lib.hid hfo; clear hfo hf
   have hkk : (k : Int) < (k : Int) + 1 := by omega
   by_cases hle : le = endB (sB Lp)
   ·have hyes : parseO s = some (Wn, content cps) := by rw [HPO.out, HFO.out]; exact if_pos hle
    have HYES := Lib.hid hyes; have HLE := Lib.hid hle; clear hyes hle
    have hlq : (le.toList == (endB (sB Lp)).toList) = true := by rw [HLE.out]; exact beq_self_eq_true _
    generalize endB (sB Lp) = EE at *
    go_wp2_with fail
    have hbb := fun (p : Blw W2.heap.size W2) => (blw_blk gL p k).trans HQL.out
    have hlL := gL.lt
    refine wp_region_blw (by kernel_rfl) (by kernel_rfl) ?_
    repeat (go_big_quiet_step (first | (go_at_call 160; exact Calls.blw_of _ (HEN.out _ _ _ (HRD.out _ (gL.below (Blw.h _) gL.lt)) ((hE.below hB).below (Blw.h _)))) | (go_at_call 163; exact Calls.blw_of_same _ (insist_ok _))))
    refine wpQuiet_nil ?_
    rintro W3 ⟨⟨_, hb3⟩, rfl⟩
    replace gT := gT.below hb3 gT.lt; replace gE := gE.below hb3 gE.lt; replace hcp := hcp.of_gb hb3; replace hB := hB.trans (hb3.mono hB.size)
    have hqT := fun i => gT.cell i; have hfT := fun i => gT.frozen i; have hlT := gT.lt; have hqE := fun i => gE.cell i; have hfE := fun i => gE.frozen i; have hlE := gE.lt
    clear hbb hlL hlq
    go_wp2_with fail
    clear hqT hfT hlT hqE hfE hlE
    replace gT := ((gT.set_ 0 (.int .i64 (Wn : Int))).set_ 1 (.slice va cps.length vc)).far (p := ⟨w.heap.size + 1, 0, none⟩) (show w.heap.size ≠ w.heap.size + 1 by omega) (.int .i64 0)
    replace gE := ((gE.far (p := ⟨w.heap.size, 0, none⟩) (show w.heap.size + 1 ≠ w.heap.size by omega) (.int .i64 (Wn : Int))).far (p := ⟨w.heap.size, 1, none⟩) (show w.heap.size + 1 ≠ w.heap.size by omega) (.slice va cps.length vc)).set_ 0 (.int .i64 0)
    replace hcp := ((hcp.set (a := ⟨w.heap.size, 0, none⟩) (show w.heap.size < (w.heap.size + 1 + 1 + 1) by omega) (.int .i64 (Wn : Int))).set (a := ⟨w.heap.size, 1, none⟩) (show w.heap.size < (w.heap.size + 1 + 1 + 1) by omega) (.slice va cps.length vc)).set (a := ⟨w.heap.size + 1, 0, none⟩) (show w.heap.size + 1 < (w.heap.size + 1 + 1 + 1) by omega) (.int .i64 0)
    replace hB := ((hB.setCell (p := ⟨w.heap.size, 0, none⟩) (Nat.le_refl w.heap.size) (.int .i64 (Wn : Int))).setCell (p := ⟨w.heap.size, 1, none⟩) (Nat.le_refl w.heap.size) (.slice va cps.length vc)).setCell (p := ⟨w.heap.size + 1, 0, none⟩) (show w.heap.size ≤ w.heap.size + 1 by omega) (.int .i64 0)
    replace gT : Blk (((W3.setCell ⟨w.heap.size, 0, none⟩ (.int .i64 (Wn : Int))).setCell ⟨w.heap.size, 1, none⟩ (.slice va cps.length vc)).setCell ⟨w.heap.size + 1, 0, none⟩ (.int .i64 0)) w.heap.size 24 #[.int .i64 (Wn : Int), .slice va cps.length vc] := by simpa using gT
    replace gE : Blk (((W3.setCell ⟨w.heap.size, 0, none⟩ (.int .i64 (Wn : Int))).setCell ⟨w.heap.size, 1, none⟩ (.slice va cps.length vc)).setCell ⟨w.heap.size + 1, 0, none⟩ (.int .i64 0)) (w.heap.size + 1) 28 #[.int .i64 0] := by simpa using gE
    generalize ((W3.setCell ⟨w.heap.size, 0, none⟩ (.int .i64 (Wn : Int))).setCell ⟨w.heap.size, 1, none⟩ (.slice va cps.length vc)).setCell ⟨w.heap.size + 1, 0, none⟩ (.int .i64 0) = w9 at *
    refine leaves_cons (f := 161) (args := #[.pointer (some ⟨w.heap.size, 0, none⟩), .pointer (some ⟨w.heap.size + 1, 0, none⟩)]) (by simp) (by simp [go_sem]) ?_
    refine (parseIdle _ _ _).mono ?_
    rintro e u' w2 ⟨rfl, rfl, rfl⟩
    have hcT := fun i => gT.cell i; have hcE := fun i => gE.cell i
    have hpp : PPost s w (.returned (.tuple #[.agg #[.int .i64 (Wn : Int), .slice va cps.length vc], .int .i64 0])) w2 := ⟨hB, by
      rw [HYES.out]
      refine ⟨_, cps, rfl, hcp.mono (by omega), rfl, by have := hst.out.1; omega, fun c hc => ⟨by have := (hst.out.2 c hc).1; omega, (hst.out.2 c hc).2⟩⟩⟩
    refine ⟨.tuple #[.agg #[.int .i64 (Wn : Int), .slice va cps.length vc], .int .i64 0], ?_, hpp⟩
    simp [results, Tryz.results120, go_sem, hcT, hcE]
   ·have hno : parseO s = none := by rw [HPO.out, HFO.out]; exact if_neg hle
    have HNO := Lib.hid hno; clear hno
    have hlq := ne_list hle
    clear hle
    generalize endB (sB Lp) = EE at *
    go_wp2_with fail
    refine wp_panicD w (fun a' w' h => by
      obtain ⟨tm, df⟩ := a'
      obtain ⟨-, h2, h3, h4, h5⟩ := h
      simp only at h4
      subst h4
      exact parse_leaves s w w' tm h2 h3 h5 HNO.out) ?_
    rename World => WR
    refine wp_region_G (fun w' => Blk w' (w.heap.size + 1 + 1) 9 arr) 10 (by kernel_rfl) ?_
    replace gT := gT.drew; replace gE := gE.drew; replace gL := gL.drew; replace hB := hB.drew
    generalize WR.drew = WD at *
    have hTT : Blk WD (w.heap.size + 1 + 1) 9 arr := gL
    refine wpG_take2 (i := 0) (v := ?vx1_0) rfl (by kernel_rfl) (by kernel_rfl) (by kernel_rfl) rfl (fun _ _ _ h => PanA.put (by decide) h) (Or.inl ⟨by rfl, ?hyx1_0⟩) hTT ?restx1_0
    case hyx1_0 => intro wq hSw; have hq1 := (Blk.cell hSw k).trans HQL.out; go_simp <;> with_reducible rfl
    simp only [LS, Act.put]
    refine wpG_take2 (i := 1) (v := ?vx1_1) rfl (by kernel_rfl) (by kernel_rfl) (by kernel_rfl) rfl (fun _ _ _ h => PanA.put (by decide) h) (Or.inl ⟨by rfl, ?hyx1_1⟩) hTT ?restx1_1
    case hyx1_1 => intro wq hSw; have hq1 := (Blk.cell hSw k).trans HQL.out; go_simp <;> with_reducible rfl
    simp only [LS, Act.put]
    refine wpG_take2 (i := 2) (v := ?vx1_2) rfl (by kernel_rfl) (by kernel_rfl) (by kernel_rfl) rfl (fun _ _ _ h => PanA.put (by decide) h) (Or.inl ⟨by rfl, ?hyx1_2⟩) hTT ?restx1_2
    case hyx1_2 => intro wq hSw; have hq1 := (Blk.cell hSw k).trans HQL.out; go_simp <;> with_reducible rfl
    simp only [LS, Act.put]
    refine wpG_take2 (i := 3) (v := ?vx1_3) rfl (by kernel_rfl) (by kernel_rfl) (by kernel_rfl) rfl (fun _ _ _ h => PanA.put (by decide) h) (Or.inl ⟨by rfl, ?hyx1_3⟩) hTT ?restx1_3
    case hyx1_3 => intro wq hSw; have hq1 := (Blk.cell hSw k).trans HQL.out; go_simp <;> with_reducible rfl
    simp only [LS, Act.put]
    refine wpG_take2 (i := 4) (v := ?vx1_4) rfl (by kernel_rfl) (by kernel_rfl) (by kernel_rfl) rfl (fun _ _ _ h => PanA.put (by decide) h) (Or.inl ⟨by rfl, ?hyx1_4⟩) hTT ?restx1_4
    case hyx1_4 => intro wq hSw; have hq1 := (Blk.cell hSw k).trans HQL.out; go_simp <;> with_reducible rfl
    simp only [LS, Act.put]
    refine wpG_take2 (i := 5) (v := ?vx1_5) rfl (by kernel_rfl) (by kernel_rfl) (by kernel_rfl) rfl (fun _ _ _ h => PanA.put (by decide) h) (Or.inl ⟨by rfl, ?hyx1_5⟩) hTT ?restx1_5
    case hyx1_5 => intro wq hSw; have hq1 := (Blk.cell hSw k).trans HQL.out; go_simp <;> with_reducible rfl
    simp only [LS, Act.put]
    refine wpG_take2 (i := 6) (v := ?vx1_6) rfl (by kernel_rfl) (by kernel_rfl) (by kernel_rfl) rfl (fun _ _ _ h => PanA.put (by decide) h) (Or.inl ⟨by rfl, ?hyx1_6⟩) hTT ?restx1_6
    case hyx1_6 => intro wq hSw; have hq1 := (Blk.cell hSw k).trans HQL.out; go_simp <;> with_reducible rfl
    simp only [LS, Act.put]
    refine o1 7 rfl fun K hK => ?_
    go_simp
    refine (HEN.out _ _ _ (HRD.out _ gL) (hE.below hB)).mono ?_; rintro e w7 ⟨rfl, hb4⟩
    replace gT := gT.below hb4 gT.lt; replace gE := gE.below hb4 gE.lt; replace gL := gL.below hb4 gL.lt; replace hB := hB.trans (hb4.mono hB.size); clear hb4
    replace hTT := gL
    refine hK _ _ (.inr hTT) ?_
    clear hK K
    try simp only [LS, Act.put]
    refine wpG_take2 (i := 8) (v := ?vx1_8) rfl (by kernel_rfl) (by kernel_rfl) (by kernel_rfl) rfl (fun _ _ _ h => PanA.put (by decide) h) (Or.inl ⟨by rfl, ?hyx1_8⟩) hTT ?restx1_8
    case hyx1_8 => intro wq hSw; have hq1 := (Blk.cell hSw k).trans HQL.out; go_simp <;> with_reducible rfl
    simp only [LS, Act.put]
    refine o1 9 rfl fun K hK => ?_
    go_simp
    refine (insist_bad _).mono ?_; rintro e w8 ⟨rfl, rfl⟩
    exact ⟨rfl, rfl, rfl, rfl, ⟨_, _, gT⟩, ⟨_, gE⟩, hB⟩
end
section
open Go.RowKit Go.Lib
theorem parse_any (s : ByteArray) (m : Int) (w : World) (hE : Env m w) (hs : s.size ≤ 400) : Calls Tryz.prog 120 #[.string s] w fun e w' => PPost s w e w' := by
 cases hend : hasSuffix s.data.toList [10] with
 | false => exact parse_b1 s w (by omega) hend
 | true =>
  by_cases hz : 2 ≤ (cutB 10 (trimB s)).length
  ·exact parse_main s m w hE hs hend hz
  ·refine parse_b2 s m w hE hs hend ?_
   have : (cutB 10 (trimB s)).length = countB (trimB s) ⟨#[10]⟩ + 1 := countB_split 10 (trimB s)
   omega
def plain (cs : List VC) : List (List (Bool × List Int)) := cs.map fun c => c.ls.map fun l => (l.lost, l.ws)
def toI (b : List (List (Bool × List Nat))) : List (List (Bool × List Int)) := b.map fun c => c.map fun l => (l.1, l.2.map fun a : Nat => (a : Int))
def slA : Value → Option Addr | .slice a _ _ => a | _ => none
def slC : Value → Nat | .slice _ _ c => c | _ => 0
def clVL (l : CL) : VL := ⟨l.lost, slA l.u, l.ws.length, slC l.u, l.ws.map fun a : Nat => (a : Int)⟩
def cVC (c : Value × List CL) : VC := ⟨slA c.1, c.2.length, slC c.1, c.2.map clVL⟩
theorem vl_of {w : World} {base : Nat} {l : CL} (ho : w.ownsRow base 3 1 l.u l.ws.length (natsV l.ws)) : (clVL l).ok w w.heap.size ∧ (clVL l).cells = l.cells := by
 obtain ⟨a, c, e⟩ := own_slice ho
 obtain ⟨lost, u, ws⟩ := l
 simp only at e ho
 subst e
 have e2 : (ws.map fun a : Nat => (a : Int)).map (Value.int .i64) = natsV ws := by unfold natsV; simp
 refine ⟨⟨own_le0 ho, own_cap ho, ?_⟩, rfl⟩
 show Rd w w.heap.size 1 a ws.length ((ws.map fun a : Nat => (a : Int)).map (Value.int .i64))
 rw [e2]
 exact Rd.of_own ho
theorem flat_vl {w : World} {base : Nat} : ∀ ls : List CL, (∀ l ∈ ls, w.ownsRow base 3 1 l.u l.ws.length (natsV l.ws)) → (ls.map clVL).flatMap VL.cells = ls.flatMap CL.cells
 | [], _ => rfl
 | l :: ls, h => by rw [List.map_cons, List.flatMap_cons, List.flatMap_cons, (vl_of (h l (by simp))).2, flat_vl ls (fun x hx => h x (by simp [hx]))]
theorem vc_of {w : World} {base : Nat} {c : Value × List CL} (ho : w.ownsRow base 76 2 c.1 c.2.length (c.2.flatMap CL.cells)) (hl : ∀ l ∈ c.2, w.ownsRow base 3 1 l.u l.ws.length (natsV l.ws)) : (cVC c).ok w w.heap.size ∧ (cVC c).val = c.1 := by
 obtain ⟨a, cp, e⟩ := own_slice ho
 obtain ⟨v, ls⟩ := c
 simp only at e ho hl
 subst e
 refine ⟨⟨own_le0 ho, own_cap ho, fun x hx => ?_, ?_⟩, rfl⟩
 ·obtain ⟨l, hx2, rfl⟩ := List.mem_map.1 hx
  exact (vl_of (hl l hx2)).1
 ·show Rd w w.heap.size 2 a ls.length ((ls.map clVL).flatMap VL.cells)
  rw [flat_vl ls hl]
  exact Rd.of_own ho
theorem vals_of {w : World} {base : Nat} : ∀ cps : Cps, (∀ c ∈ cps, w.ownsRow base 76 2 c.1 c.2.length (c.2.flatMap CL.cells) ∧ ∀ l ∈ c.2, w.ownsRow base 3 1 l.u l.ws.length (natsV l.ws)) → (cps.map cVC).map VC.val = cps.map Prod.fst
 | [], _ => rfl
 | c :: cps, h => by rw [List.map_cons, List.map_cons, List.map_cons, (vc_of (h c (by simp)).1 (h c (by simp)).2).2, vals_of cps (fun x hx => h x (by simp [hx]))]
theorem plain_of (cps : Cps) : plain (cps.map cVC) = toI (content cps) := by
 unfold plain toI content cVC clVL
 simp [Function.comp_def]
def ARGv : Ending := .returned (.tuple #[.agg #[.int .i64 0, .slice none 0 0], .int .i64 2])
def RPost (s : ByteArray) (w : World) (e : Ending) (w' : World) : Prop := Below w.heap.size w w' ∧ match parseO s with
 | some b => ∃ A n cap cs, n ≤ cap ∧ cap ≤ maxLen ∧ n ≤ 1000 ∧ Rd w' w'.heap.size 1 A n (cs.map VC.val) ∧ (∀ c ∈ cs, c.ok w' w'.heap.size) ∧ plain cs = toI b.2 ∧ e = if bookB (b.1 : Int) cs = true then .returned (.tuple #[.agg #[.int .i64 (b.1 : Int), .slice A n cap], .int .i64 0]) else ARGv
 | none => e = NONEv
theorem read_opened {w : World} {base : Nat} {A : Option Addr} {n cap : Nat} {cps : Cps} (h : CpsOk w base (.slice A n cap) cps) (hn : n = cps.length) : n ≤ cap ∧ cap ≤ maxLen ∧ Rd w w.heap.size 1 A n ((cps.map cVC).map VC.val) ∧ (∀ c ∈ cps.map cVC, c.ok w w.heap.size) := by
 subst hn
 exact ⟨own_le0 h.1, own_cap h.1, by rw [vals_of cps h.2.1]; exact Rd.of_own h.1, fun c hc => by
   obtain ⟨x, hx, rfl⟩ := List.mem_map.1 hc
   exact (vc_of (h.2.1 x hx).1 (h.2.1 x hx).2).1⟩
theorem Read_short (s : ByteArray) (m : Int) (w : World) (hE : Env m w) (hs : s.size ≤ 400) : Calls Tryz.prog 75 #[.string s] w fun e w' => RPost s w e w' := by
 have hX := Blk.new w 24 #[.int .i64 0, .slice none 0 0]
 have hB : Below w.heap.size w (w.alloc (.cells #[.int .i64 0, .slice none 0 0] 24)) := (Below.refl _ w).alloc (Nat.le_refl _) _
 have hgt : ¬ (400 : Int) < (s.size : Int) := by omega
 have hp := fun wx hx => parse_any s m wx hx hs
 have HP := Lib.hid hp; clear hp
 obtain ⟨RP, hRP⟩ : ∃ RP : Ending → World → Prop, RP = RPost s w := ⟨_, rfl⟩
 have hR2 : ∀ e w', RPost s w e w' → RP e w' := fun e w' h => by rw [hRP]; exact h
 rw [show (fun e w' => RPost s w e w') = RP by rw [hRP]]
 have HR := Lib.hid hR2; clear hR2 hRP
 go_enter Tryz.func75, Tryz.ntmps75
 go_wp2_with fail
 refine (HP.out _ (hE.below hB)).mono ?_
 rintro e w1 ⟨hb, hq⟩
 replace hX := hX.below hb hX.lt; replace hB := hB.trans (hb.mono hB.size); clear hb
 cases hpo : parseO s with
 | none =>
  rw [hpo] at hq
  obtain rfl : e = NONEv := hq
  have hpost : ∀ w', Below w.heap.size w w' → RP NONEv w' := fun w' h => HR.out _ _ ⟨h, by rw [hpo]⟩
  have HPO := Lib.hid hpost; clear hpost hpo
  unfold NONEv at *
  replace hX := hX.alloc (.cells #[.int .i64 0, .slice none 0 0] 24); replace hB := hB.alloc hB.size (.cells #[.int .i64 0, .slice none 0 0] 24)
  have qX := fun i => hX.cell i; have fX := fun i => hX.frozen i; have lX := hX.lt
  go_wp2_with fail
  have G : Blk (((w1.alloc (.cells #[.int .i64 0, .slice none 0 0] 24)).setCell ⟨w.heap.size, 0, none⟩ (.int .i64 0)).setCell ⟨w.heap.size, 1, none⟩ (.slice none 0 0)) w.heap.size 24 #[.int .i64 0, .slice none 0 0] := by simpa using ((hX.set_ 0 (.int .i64 0)).set_ 1 (.slice none 0 0))
  have qG := fun i => G.cell i
  exact bodyPost_ret (v := .tuple #[.agg #[.int .i64 0, .slice none 0 0], .int .i64 4]) (by simp [results, Tryz.results75, go_sem, qG]) rfl (HPO.out _ ((hB.setCell (p := ⟨w.heap.size, 0, none⟩) (Nat.le_refl w.heap.size) _).setCell (p := ⟨w.heap.size, 1, none⟩) (Nat.le_refl w.heap.size) _))
 | some b =>
  rw [hpo] at hq
  obtain ⟨v, cps, he, hcp, hcon, hl1, hl2⟩ := hq
  subst he
  obtain ⟨A, cap, rfl⟩ := own_slice hcp.1
  obtain ⟨n, hn⟩ : ∃ n, n = cps.length := ⟨_, rfl⟩
  rw [← hn] at hl1 hcp ⊢
  obtain ⟨hc1, hc2, hrd, hok⟩ := read_opened hcp hn
  have hpl := plain_of cps
  rw [hcon] at hpl
  have hgb := fun (wx : World) (hx : Below w1.heap.size w1 wx) => goodBook_any (b.1 : Int) A n cap (cps.map cVC) wx (by omega) (rdB hrd hx) (fun c h => okB (hok c h) hx)
  have hpost : ∀ w', Below w.heap.size w w' → CpsOk w' (w.heap.size + 1) (.slice A n cap) cps → RP (if bookB (b.1 : Int) (cps.map cVC) = true then .returned (.tuple #[.agg #[.int .i64 (b.1 : Int), .slice A n cap], .int .i64 0]) else ARGv) w' := fun w' h h1 => HR.out _ _ ⟨h, by rw [hpo]; exact ⟨A, n, cap, cps.map cVC, hc1, hc2, hl1, (read_opened h1 hn).2.2.1, (read_opened h1 hn).2.2.2, hpl, rfl⟩⟩
  have HPO := Lib.hid hpost
  replace hcp := hcp.mono (base' := w.heap.size + 1) (by simp)
  have hZ := Blk.new w1 24 #[.int .i64 (b.1 : Int), .slice A n cap]
  have hB1 : Below w1.heap.size w1 (w1.alloc (.cells #[.int .i64 (b.1 : Int), .slice A n cap] 24)) := (Below.refl _ w1).alloc (Nat.le_refl _) _
  replace hX := hX.alloc (.cells #[.int .i64 (b.1 : Int), .slice A n cap] 24); replace hB := hB.alloc hB.size (.cells #[.int .i64 (b.1 : Int), .slice A n cap] 24)
  replace hcp := hcp.of_gb ((Below.refl _ w1).alloc (Nat.le_refl _) (.cells #[.int .i64 (b.1 : Int), .slice A n cap] 24))
  have HGB := Lib.hid hgb
  obtain ⟨wn, hwn⟩ : ∃ wn : Int, wn = (b.1 : Int) := ⟨_, rfl⟩
  rw [← hwn] at hZ HPO HGB hX hB hB1 hcp ⊢
  clear hgb hpost hpo hpl hok hrd hwn hcon hl2 hn
  have qZ := fun i => hZ.cell i
  have hPz := HPO.out; have hGz := HGB.out
  cases hbk : bookB wn (cps.map cVC) with
  | true =>
   simp only [hbk, if_true] at hPz hGz
   have HP2 := Lib.hid hPz; have HG2 := Lib.hid hGz; clear hPz hGz hbk
   go_wp2_with fail
   refine (HG2.out _ hB1).mono ?_; rintro e w2 ⟨rfl, hb⟩
   replace hX := hX.below hb hX.lt; replace hB := hB.trans (hb.mono hB.size); replace hcp := hcp.of_gb hb; replace hZ := hZ.below hb hZ.lt; clear hb qZ
   have qZ := fun i => hZ.cell i; have fX := fun i => hX.frozen i; have lX := hX.lt; have qX := fun i => hX.cell i
   go_wp2_with fail
   have G : Blk ((w2.setCell ⟨w.heap.size, 0, none⟩ (.int .i64 wn)).setCell ⟨w.heap.size, 1, none⟩ (.slice A n cap)) w.heap.size 24 #[.int .i64 wn, .slice A n cap] := by simpa using ((hX.set_ 0 (.int .i64 wn)).set_ 1 (.slice A n cap))
   have qG := fun i => G.cell i
   exact bodyPost_ret (v := .tuple #[.agg #[.int .i64 wn, .slice A n cap], .int .i64 0]) (by simp [results, Tryz.results75, go_sem, qG]) rfl (HP2.out _ ((hB.setCell (p := ⟨w.heap.size, 0, none⟩) (Nat.le_refl w.heap.size) _).setCell (p := ⟨w.heap.size, 1, none⟩) (Nat.le_refl w.heap.size) _) ((hcp.set (a := ⟨w.heap.size, 0, none⟩) (Nat.lt_succ_self w.heap.size) _).set (a := ⟨w.heap.size, 1, none⟩) (Nat.lt_succ_self w.heap.size) _))
  | false =>
   simp only [hbk, Bool.false_eq_true, if_false] at hPz hGz
   have HP2 := Lib.hid hPz; have HG2 := Lib.hid hGz; clear hPz hGz hbk
   go_wp2_with fail
   refine (HG2.out _ hB1).mono ?_; rintro e w2 ⟨rfl, hb⟩
   replace hX := hX.below hb hX.lt; replace hB := hB.trans (hb.mono hB.size); replace hcp := hcp.of_gb hb; clear hb qZ
   have fX := fun i => hX.frozen i; have lX := hX.lt; have qX := fun i => hX.cell i
   go_wp2_with fail
   have G : Blk ((w2.setCell ⟨w.heap.size, 0, none⟩ (.int .i64 0)).setCell ⟨w.heap.size, 1, none⟩ (.slice none 0 0)) w.heap.size 24 #[.int .i64 0, .slice none 0 0] := by simpa using ((hX.set_ 0 (.int .i64 0)).set_ 1 (.slice none 0 0))
   have qG := fun i => G.cell i
   exact bodyPost_ret (v := .tuple #[.agg #[.int .i64 0, .slice none 0 0], .int .i64 2]) (by simp [results, Tryz.results75, go_sem, qG]) rfl (HP2.out _ ((hB.setCell (p := ⟨w.heap.size, 0, none⟩) (Nat.le_refl w.heap.size) _).setCell (p := ⟨w.heap.size, 1, none⟩) (Nat.le_refl w.heap.size) _) ((hcp.set (a := ⟨w.heap.size, 0, none⟩) (Nat.lt_succ_self w.heap.size) _).set (a := ⟨w.heap.size, 1, none⟩) (Nat.lt_succ_self w.heap.size) _))
end
section
open Go.RowKit Go.Lib
theorem decimal_small (n : Int) (w : World) (h0 : 0 ≤ n) (h1 : n < 10) :
  Calls Tryz.prog 167 #[.int .i64 n] w fun e w' => e = .returned (.string (strOfNums [48 + n])) ∧ Below w.heap.size w w' := by
 have a1 : ¬ n < 0 := by omega
 have kc := run_convert_bytes_arg (P := Tryz.prog) (w.alloc (.cells #[.int .u8 (48 + n)] 5)) 111 5 Tryz.underlying111 Tryz.underlying5 w.heap.size 0 1 1 [48 + n] rfl (fun i hi => by
   obtain rfl : i = 0 := by omega
   simp) 9 Tryz.underlying9
 go_enter Tryz.func167, Tryz.ntmps167
 go_wp2
 go_ret
 exact ⟨rfl, (Below.refl _ w).alloc (Nat.le_refl _) _⟩
theorem decimal_two (n : Nat) (w : World) (h0 : 10 ≤ n) (h1 : n < 100) :
  Calls Tryz.prog 167 #[.int .i64 n] w fun e w' => e = .returned (.string (dS n)) ∧ Below w.heap.size w w' := by
 have hD := fun wx => decimal_small ((n / 10 : Nat) : Int) wx (by omega) (by omega)
 have hfn : Ending.returned (Value.string (strOfNums [48 + ((n / 10 : Nat) : Int)] ++ strOfNums [48 + ((n % 10 : Nat) : Int)])) = Ending.returned (Value.string (dS n)) := by
  rw [nums_dgt _ (by omega), nums_dgt _ (by omega), ba_cons]
  unfold dS
  rw [decDigits_two (by omega) h1]
  rfl
 have HFN := Lib.hid hfn; clear hfn
 have ed : (n : Int).tdiv 10 = ((n / 10 : Nat) : Int) := rfl
 have em : (n : Int).tmod 10 = ((n % 10 : Nat) : Int) := rfl
 have hd1 : n / 10 < 10 := by omega
 have hd2 : n % 10 < 10 := by omega
 have a1 : ¬ (n : Int) < 0 := by omega
 have a2 : ¬ (n : Int) < 10 := by omega
 have a3 : ¬ n < 10 := by omega
 obtain ⟨d1, e1⟩ : ∃ d1 : Int, d1 = ((n / 10 : Nat) : Int) := ⟨_, rfl⟩
 obtain ⟨d2, e2⟩ : ∃ d2 : Int, d2 = ((n % 10 : Nat) : Int) := ⟨_, rfl⟩
 have b1 : 0 ≤ d1 ∧ d1 < 10 := by omega
 have b2 : 0 ≤ d2 ∧ d2 < 10 := by omega
 rw [← e1] at ed hD HFN
 rw [← e2] at em HFN
 obtain ⟨b1, b1'⟩ := b1
 obtain ⟨b2, b2'⟩ := b2
 clear e1 e2 hd1 hd2
 have hw1 := i64_ok d1 (by omega)
 have hw2 := i64_ok d2 (by omega)
 have hw3 := i64_ok (48 + d2) (by omega)
 have hw4 : IntKind.u8.wrap (48 + d2) = 48 + d2 := by simp only [IntKind.wrap, IntKind.signed, IntKind.bits]; simp; omega
 have hsz1 : (strOfNums [48 + d1]).size = 1 := rfl
 have hsz2 : (strOfNums [48 + d2]).size = 1 := rfl
 have HD := Lib.hid hD; clear hD
 go_enter Tryz.func167, Tryz.ntmps167
 go_upto_region 7 with fail
 refine wp_region_G (fun w' => Below w.drew.heap.size w.drew w') 10 (by kernel_rfl) ?_
 have hB0 : Below w.heap.size w w.drew := Below.drew (Below.refl w.heap.size w)
 generalize w.drew = WD at *
 have hTT : Below WD.heap.size WD WD := Below.refl _ _
 refine tk 0 (v := ?_) rfl (Or.inl ⟨by rfl, ?h⟩) hTT ?_
 case h => intro wq hSw; go_simp <;> with_reducible rfl
 simp only [LS, Act.put]
 refine tk 1 (v := ?_) rfl (Or.inl ⟨by rfl, ?h⟩) hTT ?_
 case h => intro wq hSw; go_simp <;> with_reducible rfl
 simp only [LS, Act.put]
 refine tk 3 (v := ?_) rfl (Or.inl ⟨by rfl, ?h⟩) hTT ?_
 case h => intro wq hSw; go_simp <;> with_reducible rfl
 simp only [LS, Act.put]
 refine tk 4 (v := ?_) rfl (Or.inl ⟨by rfl, ?h⟩) hTT ?_
 case h => intro wq hSw; go_simp <;> with_reducible rfl
 simp only [LS, Act.put]
 refine tk 5 (v := ?_) rfl (Or.inl ⟨by rfl, ?h⟩) hTT ?_
 case h => intro wq hSw; go_simp <;> with_reducible rfl
 simp only [LS, Act.put]
 refine tk 6 (v := ?_) rfl (Or.inl ⟨by rfl, ?h⟩) hTT ?_
 case h => intro wq hSw; go_simp <;> with_reducible rfl
 simp only [LS, Act.put]
 refine wpG_two (i := 2) (j := 7) rfl rfl (by kernel_rfl) (fun K hK => ?_) (fun K hK => ?_)
 ·go_simp
  refine (HD.out _).mono ?_; rintro e w1 ⟨rfl, hb⟩
  replace hTT := hTT.trans (hb.mono hTT.size); (try replace hBk := hBk.below hb hBk.lt); clear hb; dsimp only
  refine hK _ _ (.inr hTT) ?_
  clear hK K
  try simp only [LS, Act.put]
  refine o1 7 rfl fun K hK => ?_
  go_simp
  rename World => WB
  have hBk := Blk.new WB 5 #[.int .u8 (48 + d2)]
  obtain ⟨g, hg⟩ : ∃ g, g = WB.heap.size := ⟨_, rfl⟩
  rw [← hg] at hBk ⊢
  replace hTT := hTT.alloc hTT.size (.cells #[.int .u8 (48 + d2)] 5)
  refine hK _ _ (.inr hTT) ?_
  clear hK K hg
  generalize WB.alloc (.cells #[.int .u8 (48 + d2)] 5) = WC at *
  try simp only [LS, Act.put]
  refine o1 8 rfl fun K hK => ?_
  have kc := run_convert_bytes_arg (P := Tryz.prog) _ 111 5 Tryz.underlying111 Tryz.underlying5 g 0 1 1 [48 + d2] rfl (fun i hi => by obtain rfl : i = 0 := (by omega); rw [hBk.cell]; rfl) 9 Tryz.underlying9
  go_simp
  refine hK _ _ (.inr hTT) ?_
  clear hK K kc
  try simp only [LS, Act.put]
  refine tk 9 (v := ?_) rfl (Or.inl ⟨by rfl, ?h⟩) hTT ?_
  case h => intro wq hSw; go_simp <;> with_reducible rfl
  simp only [LS, Act.put]
  refine o1 10 rfl fun K hK => ?_
  go_simp
  refine hK _ _ (.inl rfl) ?_
  clear hK K
  try simp only [LS, Act.put]
  refine wpG_done (by kernel_rfl) ?_ _
  go_wp2_with fail
  go_ret
  exact ⟨HFN.out, hB0.trans (hTT.mono hB0.size)⟩
 ·go_simp
  rename World => WB
  have hBk := Blk.new WB 5 #[.int .u8 (48 + d2)]
  obtain ⟨g, hg⟩ : ∃ g, g = WB.heap.size := ⟨_, rfl⟩
  rw [← hg] at hBk ⊢
  replace hTT := hTT.alloc hTT.size (.cells #[.int .u8 (48 + d2)] 5)
  refine hK _ _ (.inr hTT) ?_
  clear hK K hg
  generalize WB.alloc (.cells #[.int .u8 (48 + d2)] 5) = WC at *
  try simp only [LS, Act.put]
  refine wpG_two (i := 2) (j := 8) rfl rfl (by kernel_rfl) (fun K hK => ?_) (fun K hK => ?_)
  ·go_simp
   refine (HD.out _).mono ?_; rintro e w1 ⟨rfl, hb⟩
   replace hTT := hTT.trans (hb.mono hTT.size); (try replace hBk := hBk.below hb hBk.lt); clear hb; dsimp only
   refine hK _ _ (.inr hTT) ?_
   clear hK K
   try simp only [LS, Act.put]
   refine o1 8 rfl fun K hK => ?_
   have kc := run_convert_bytes_arg (P := Tryz.prog) _ 111 5 Tryz.underlying111 Tryz.underlying5 g 0 1 1 [48 + d2] rfl (fun i hi => by obtain rfl : i = 0 := (by omega); rw [hBk.cell]; rfl) 9 Tryz.underlying9
   go_simp
   refine hK _ _ (.inr hTT) ?_
   clear hK K kc
   try simp only [LS, Act.put]
   refine tk 9 (v := ?_) rfl (Or.inl ⟨by rfl, ?h⟩) hTT ?_
   case h => intro wq hSw; go_simp <;> with_reducible rfl
   simp only [LS, Act.put]
   refine o1 10 rfl fun K hK => ?_
   go_simp
   refine hK _ _ (.inl rfl) ?_
   clear hK K
   try simp only [LS, Act.put]
   refine wpG_done (by kernel_rfl) ?_ _
   go_wp2_with fail
   go_ret
   exact ⟨HFN.out, hB0.trans (hTT.mono hB0.size)⟩
  ·have kc := run_convert_bytes_arg (P := Tryz.prog) _ 111 5 Tryz.underlying111 Tryz.underlying5 g 0 1 1 [48 + d2] rfl (fun i hi => by obtain rfl : i = 0 := (by omega); rw [hBk.cell]; rfl) 9 Tryz.underlying9
   go_simp
   refine hK _ _ (.inr hTT) ?_
   clear hK K kc
   try simp only [LS, Act.put]
   refine o1 2 rfl fun K hK => ?_
   go_simp
   refine (HD.out _).mono ?_; rintro e w1 ⟨rfl, hb⟩
   replace hTT := hTT.trans (hb.mono hTT.size); (try replace hBk := hBk.below hb hBk.lt); clear hb; dsimp only
   refine hK _ _ (.inr hTT) ?_
   clear hK K
   try simp only [LS, Act.put]
   refine tk 9 (v := ?_) rfl (Or.inl ⟨by rfl, ?h⟩) hTT ?_
   case h => intro wq hSw; go_simp <;> with_reducible rfl
   simp only [LS, Act.put]
   refine o1 10 rfl fun K hK => ?_
   go_simp
   refine hK _ _ (.inl rfl) ?_
   clear hK K
   try simp only [LS, Act.put]
   refine wpG_done (by kernel_rfl) ?_ _
   go_wp2_with fail
   go_ret
   exact ⟨HFN.out, hB0.trans (hTT.mono hB0.size)⟩
theorem decimal_any (n : Nat) (w : World) (h : n < 100) : Calls Tryz.prog 167 #[.int .i64 n] w fun e w' => e = .returned (.string (dS n)) ∧ Below w.heap.size w w' := by
 by_cases h1 : n < 10
 ·have key := decimal_small (n : Int) w (by omega) (by omega)
  rw [nums_dgt n h1] at key
  have e : dS n = ⟨#[dgt n]⟩ := by unfold dS; rw [decDigits_one h1]; rfl
  rw [e]
  exact key
 ·exact decimal_two n w (by omega) h
theorem row_any (D : Int → ByteArray) (s0 : ByteArray) (A : Option Addr) (n cap : Nat) (l : List Int) (w : World) (hn : n ≤ 100000) (hr : Rd w w.heap.size 1 A n (l.map (Value.int .i64))) (hs0 : s0.size ≤ 100000) (hDs : ∀ x ∈ l, (D x).size ≤ 100000)
  (hD : ∀ x ∈ l, ∀ w' : World, Calls Tryz.prog 167 #[.int .i64 x] w' fun e w'' => e = .returned (.string (D x)) ∧ Below w'.heap.size w' w'') :
  Calls Tryz.prog 121 #[.string s0, .slice A n cap] w fun e w' => e = .returned (.string (rowS D l s0)) ∧ Below w.heap.size w w' := by
 have hlen := hr.len
 have HLEN := Lib.hid hlen; clear hlen
 go_enter Tryz.func121, Tryz.ntmps121
 go_wp2
 go_loopg [0, 5] n (fun g s i wr => ∃ (k : Nat) (s' : ByteArray), g = n - k ∧ k ≤ n ∧ i = .int .i64 k ∧ s = .string s' ∧ rowS D (l.drop k) s' = rowS D l s0 ∧ s'.size ≤ 100000 + k * 200000 ∧ Below w.heap.size w wr)
 case atStart => exact ⟨0, s0, rfl, Nat.zero_le _, rfl, rfl, rfl, by omega, Below.refl _ _⟩
 case round =>
  obtain ⟨k, s', hg, hk, rfl, rfl, hs, hsz, hB⟩ := hrel
  have HG := Lib.hid hg; clear hg
  by_cases hlt : k < n
  ·obtain ⟨cb, coff, hz, rfl, hcb, hcc⟩ := (hr.below hB).atm hlt
   rw [rowS_drop _ _ _ _ hz] at hs
   have hDx := hD _ (List.getElem_mem hz) wr
   have hDz := hDs _ (List.getElem_mem hz)
   generalize l[k] = x at *
   have q1 : ¬ 9223372036854775807 < s'.size + ByteArray.size ⟨#[32]⟩ := by rw [show ByteArray.size ⟨#[32]⟩ = 1 from rfl]; omega
   have q2 : ¬ 9223372036854775807 < (s' ++ ⟨#[32]⟩).size + (D x).size := by rw [ByteArray.size_append, show ByteArray.size ⟨#[32]⟩ = 1 from rfl]; omega
   have HS := Lib.hid hs; clear hs
   go_wp2_with (go_at_call 167; refine hDx.mono ?_; rintro e w1 ⟨rfl, hb⟩; replace hB := hB.trans (hb.mono hB.size))
   go_roundg (n - (k + 1))
   case measure => rw [HG.out]; omega
   case rel => exact ⟨k + 1, _, rfl, by omega, by go_num, rfl, HS.out, by rw [ByteArray.size_append, ByteArray.size_append, show ByteArray.size ⟨#[32]⟩ = 1 from rfl]; omega, hB⟩
  ·have hd : l.drop k = [] := List.drop_of_length_le (by have := HLEN.out; omega)
   rw [hd, rowS] at hs
   subst hs
   go_wp2
   go_ret
   exact ⟨rfl, hB⟩
theorem sealed_any (A : Option Addr) (n cap : Nat) (rs : List ByteArray) (by_ : Int) (w : World) (hby : 1 ≤ by_ ∧ by_ ≤ 999) (hn : n ≤ 100000) (hs : ∀ r ∈ rs, r.size ≤ 100000) (hr : Rd w w.heap.size 1 A n (rs.map Value.string)) (h0 : 0 ≤ sumA rs 0 0) :
  Calls Tryz.prog 122 #[.slice A n cap, .int .i64 by_] w fun e w' => e = .returned (.string (linesS rs ⟨#[]⟩ ++ ⟨#[101, 110, 100, 32]⟩ ++ strOfNums [48 + (sumA rs 0 0 % by_) / 100] ++ strOfNums [48 + (sumA rs 0 0 % by_) / 10 % 10] ++ strOfNums [48 + (sumA rs 0 0 % by_) % 10] ++ ⟨#[10]⟩)) ∧ Below w.heap.size w w' := by
 have hlen := hr.len
 have HLEN := Lib.hid hlen; clear hlen
 go_enter Tryz.func122, Tryz.ntmps122
 go_wp2
 go_loop [5, 6, 7] (fun t s i => ∃ (k : Nat) (acc : Int) (t' : ByteArray), k ≤ n ∧ i = .int .i64 k ∧ s = .int .i64 acc ∧ t = .string t' ∧ sumA (rs.drop k) k acc = sumA rs 0 0 ∧ linesS (rs.drop k) t' = linesS rs ⟨#[]⟩ ∧ t'.size ≤ k * 200000) (fun _ _ i => n - (intOf i).toNat)
 case atStart => exact ⟨0, 0, _, Nat.zero_le _, rfl, rfl, rfl, rfl, rfl, by rw [show ByteArray.size ⟨#[]⟩ = 0 from rfl]; omega⟩
 case round =>
  obtain ⟨k, acc, t', hk, rfl, rfl, rfl, hacc, hlin, htz⟩ := hrel
  by_cases hlt : k < n
  ·obtain ⟨cb, coff, hz, rfl, hcb, hcc⟩ := hr.atm hlt
   rw [sumA_drop _ _ _ hz] at hacc
   rw [linesS_drop _ _ _ hz] at hlin
   have hsz := hs _ (List.getElem_mem hz)
   generalize rs[k] = r at *
   have q1 : ¬ 9223372036854775807 < t'.size + r.size := by omega
   have q2 : ¬ 9223372036854775807 < (t' ++ r).size + ByteArray.size ⟨#[10]⟩ := by rw [ByteArray.size_append, show ByteArray.size ⟨#[10]⟩ = 1 from rfl]; omega
   have HACC := Lib.hid hacc; have HLIN := Lib.hid hlin; clear hacc hlin
   go_wp2
   go_loop [6, 8] (fun s i => ∃ (q : Nat) (ac : Int), q ≤ r.size ∧ i = .int .i64 q ∧ s = .int .i64 ac ∧ sumB k (r.data.toList.drop q) q ac = sumB k r.data.toList 0 acc) (fun _ i => r.size - (intOf i).toNat)
   case atStart => exact ⟨0, acc, Nat.zero_le _, rfl, rfl, rfl⟩
   case round =>
    obtain ⟨q, ac, hq, rfl, rfl, hqc⟩ := hrel
    by_cases hqt : q < r.size
    ·have hql : q < r.data.toList.length := by rw [Array.length_toList]; exact hqt
     rw [sumB_drop _ _ _ _ hql] at hqc
     have hby : r.data.toList[q] = r[q] := Array.getElem_toList ..
     rw [hby] at hqc
     have HQC := Lib.hid hqc; clear hqc
     go_wp2
     go_round
     case rel => exact ⟨q + 1, _, by omega, by go_num, rfl, HQC.out⟩
     case measure => simp [intOf]; omega
    ·have hd : r.data.toList.drop q = [] := List.drop_of_length_le (by rw [Array.length_toList]; exact Nat.le_of_not_lt hqt)
     rw [hd, sumB] at hqc
     have HQC := Lib.hid hqc; clear hqc
     go_wp2
     go_round
     case rel => exact ⟨k + 1, ac, _, by omega, by go_num, rfl, rfl, by rw [HQC.out]; exact HACC.out, HLIN.out, by rw [ByteArray.size_append, ByteArray.size_append, show ByteArray.size ⟨#[10]⟩ = 1 from rfl]; omega⟩
     case measure => simp [intOf]; omega
  ·have hkn : k = n := by omega
   have hd : rs.drop k = [] := List.drop_of_length_le (by have := HLEN.out; omega)
   rw [hd, sumA] at hacc
   rw [hd, linesS] at hlin
   rw [← hacc] at h0
   have hm0 := Int.emod_nonneg acc (show by_ ≠ 0 by omega)
   have hm1 := Int.emod_lt_of_pos acc (show 0 < by_ by omega)
   have HA := Lib.hid hacc; have HLI := Lib.hid hlin; clear hacc hlin
   have q1 : ¬ 9223372036854775807 < t'.size + ByteArray.size ⟨#[101, 110, 100, 32]⟩ := by rw [show ByteArray.size ⟨#[101, 110, 100, 32]⟩ = 4 from rfl]; omega
   have q2 : ∀ v, ¬ 9223372036854775807 < t'.size + 4 + (strOfNums [v]).size := fun v => by rw [strNum_size]; omega
   have q3 : ∀ u v, ¬ 9223372036854775807 < t'.size + 4 + (strOfNums [u]).size + (strOfNums [v]).size := fun u v => by simp only [strNum_size]; omega
   have q4 : ∀ u v x, ¬ 9223372036854775807 < t'.size + 4 + (strOfNums [u]).size + (strOfNums [v]).size + (strOfNums [x]).size := fun u v x => by simp only [strNum_size]; omega
   have q5 : ∀ u v x, ¬ 9223372036854775807 < t'.size + 4 + (strOfNums [u]).size + (strOfNums [v]).size + (strOfNums [x]).size + 1 := fun u v x => by simp only [strNum_size]; omega
   have hBB : Below w.heap.size w w := Below.refl _ _
   go_wp2_with fail
   generalize hmm : acc % by_ = m at *
   have HM := Lib.hid hmm; clear hmm
   go_wp2_with (go_at_call 167; refine (decimal_small _ _ (by omega) (by omega)).mono ?_; rintro e w1 ⟨rfl, hb⟩; replace hBB := hBB.trans (hb.mono hBB.size); clear hb)
   go_ret
   exact ⟨by rw [← HA.out, ← HLI.out, HM.out]; rfl, hBB⟩
theorem decimal_int (x : Int) (h0 : 0 ≤ x) (h1 : x < 100) (w : World) : Calls Tryz.prog 167 #[.int .i64 x] w fun e w' => e = .returned (.string (DZ x)) ∧ Below w.heap.size w w' := by
 have e : x = (x.toNat : Int) := by omega
 have h2 := decimal_any x.toNat w (by omega)
 rw [← e] at h2
 exact h2
theorem refSeal (L : List ByteArray) (s : Nat) (h : L ≠ []) : linesS L ⟨#[]⟩ ++ ⟨#[101, 110, 100, 32]⟩ ++ strOfNums [48 + ((s : Int) % 197) / 100] ++ strOfNums [48 + ((s : Int) % 197) / 10 % 10] ++ strOfNums [48 + ((s : Int) % 197) % 10] ++ ⟨#[10]⟩ = txtB L s := by
 have hm := Nat.mod_lt s (show 0 < 197 by omega)
 have e0 : (s : Int) % 197 = ((s % 197 : Nat) : Int) := rfl
 rw [e0]
 obtain ⟨v, hv⟩ : ∃ v, v = s % 197 := ⟨_, rfl⟩
 rw [← hv] at hm ⊢
 have e1 : ((v : Int)) / 100 = ((v / 100 : Nat) : Int) := rfl
 have e2 : ((v : Int)) / 10 % 10 = ((v / 10 % 10 : Nat) : Int) := rfl
 have e3 : ((v : Int)) % 10 = ((v % 10 : Nat) : Int) := rfl
 rw [e1, e2, e3, nums_dgt _ (by omega), nums_dgt _ (by omega), nums_dgt _ (by omega), linesS_jn L _ h]
 unfold txtB
 rw [← jnS_snoc L (endB s) ⟨#[10]⟩ h]
 have e4 : endB s = ⟨#[101, 110, 100, 32]⟩ ++ ⟨#[dgt (v / 100)]⟩ ++ ⟨#[dgt (v / 10 % 10)]⟩ ++ ⟨#[dgt (v % 10)]⟩ := by
  unfold endB
  rw [← hv]
  apply ba_list
  show (jnS [wEnd, dgt3 v] ⟨#[32]⟩).data.toList = _
  rw [← lineS_jn1 wEnd [dgt3 v] (by simp)]
  unfold lineS
  simp only [ByteArray.data_append, Array.toList_append, jnS_list, List.map_cons, List.map_nil, join_one]
  rfl
 rw [e4]
 apply ba_list
 simp only [ByteArray.data_append, Array.toList_append]
 simp
end
section
open Go.RowKit Go.Lib
theorem row_book (wn : Nat) (A : Option Addr) (cap : Nat) (w : World) (hn : wn < 100) (hr : Rd w w.heap.size 1 A 1 [.int .i64 (wn : Int)]) : Calls Tryz.prog 121 #[.string ⟨#[98, 111, 111, 107]⟩, .slice A 1 cap] w fun e w' => e = .returned (.string (jnS [wBook, dS wn] ⟨#[32]⟩)) ∧ Below w.heap.size w w' := by
 have h := row_any DZ wBook A 1 cap [(wn : Int)] w (by omega) hr (by decide) (fun x hx => by
   obtain rfl : x = (wn : Int) := (by simpa using hx)
   have := DZ_size (wn : Int) (by omega) (by omega); omega) (fun x hx w' => by
   obtain rfl : x = (wn : Int) := (by simpa using hx)
   exact decimal_int _ (by omega) (by omega) w')
 rw [rowS_jn] at h
 exact h
theorem row_line (A : Option Addr) (n cap : Nat) (l : List Int) (w : World) (hn : n ≤ 1000) (hl : ∀ x ∈ l, 0 ≤ x ∧ x < 100) (hr : Rd w w.heap.size 1 A n (l.map (Value.int .i64))) : Calls Tryz.prog 121 #[.string ⟨#[108, 105, 110, 101]⟩, .slice A n cap] w fun e w' => e = .returned (.string (jnS (wLine :: l.map DZ) ⟨#[32]⟩)) ∧ Below w.heap.size w w' := by
 have h := row_any DZ wLine A n cap l w (by omega) hr (by decide) (fun x hx => by
   have := DZ_size x (hl x hx).1 (by have := (hl x hx).2; omega); omega) (fun x hx w' => decimal_int x (hl x hx).1 (hl x hx).2 w')
 rw [rowS_jn] at h
 exact h
theorem refPrint_any (wn : Nat) (A : Option Addr) (n cap : Nat) (cs : List VC) (w : World) (hwn : wn < 100) (hn : n ≤ 1000) (hr : Rd w w.heap.size 1 A n (cs.map VC.val)) (hc : ∀ c ∈ cs, c.ok w w.heap.size) (hh : ∀ c ∈ cs, c.n ≤ 1000 ∧ ∀ l ∈ c.ls, l.n ≤ 1000 ∧ ∀ x ∈ l.ws, 0 ≤ x ∧ x < 100)
  (hL : (linesB wn cs).length ≤ 990) (hsz : ∀ x ∈ linesB wn cs, x.size ≤ 900) :
  Calls Tryz.prog 76 #[.agg #[.int .i64 (wn : Int), .slice A n cap]] w fun e w' => e = .returned (.string (bookT wn cs)) ∧ Below w.heap.size w w' := by
 obtain ⟨i9, hi, hz0, hz1', hz2'⟩ := info_parts info9
 have hlen : cs.length = n := by simpa using hr.len
 have hB : Below w.heap.size w (w.alloc (.cells #[.int .i64 (wn : Int), .slice A n cap] 24)) := (Below.refl _ w).alloc (Nat.le_refl _) _
 have hX := Blk.new w 24 #[.int .i64 (wn : Int), .slice A n cap]
 have h0 := sumA_ok (linesB wn cs) 0 0 (Int.le_refl _) (by omega) hsz (Int.le_refl _) (by omega)
 have hsum : sumA (linesB wn cs) 0 0 = (sB (linesB wn cs) : Nat) := by unfold sB; omega
 have hse := fun (A : Option Addr) (cap : Nat) wx hx => sealed_any A (linesB wn cs).length cap (linesB wn cs) 197 wx (by omega) (by omega) (fun x hx => by have := hsz x hx; omega) hx h0
 have hte := refSeal (linesB wn cs) (sB (linesB wn cs)) (by unfold linesB; simp)
 rw [hsum, hte] at hse
 have hbt : txtB (linesB wn cs) (sB (linesB wn cs)) = bookT wn cs := rfl
 rw [hbt] at hse
 obtain ⟨M, hM⟩ : ∃ M, M = (linesB wn cs).length := ⟨_, rfl⟩
 rw [← hM] at hse
 have HL := Lib.hid hlen; have HH := Lib.hid hh; have HSE := Lib.hid hse; have HM := Lib.hid hM
 clear hlen hh hse hM hte hbt hsum h0 hsz hL
 have qX := fun i => hX.cell i
 go_enter Tryz.func76, Tryz.ntmps76
 go_upto_region 1 with fail
 generalize w.alloc (.cells #[.int .i64 (wn : Int), .slice A n cap] 24) = W0 at *
 go_upto_region 2 with fail
 have hB2 := hB.alloc hB.size (.cells #[.int .i64 (wn : Int)] 3)
 refine (row_book wn _ _ _ hwn (Rd.blkN (Blk.new W0 3 #[.int .i64 (wn : Int)]) rfl (by simp only [World.size_alloc]; omega))).mono ?_
 rintro e w1 ⟨rfl, hb⟩
 replace hX := (hX.alloc (.cells #[.int .i64 (wn : Int)] 3)).below hb (hX.alloc (.cells #[.int .i64 (wn : Int)] 3)).lt; replace hB := hB2.trans (hb.mono hB2.size); clear hb hB2 qX
 go_upto_region 2 with fail
 obtain ⟨b0, hb0⟩ : ∃ b0, b0 = jnS [wBook, dS wn] ⟨#[32]⟩ := ⟨_, rfl⟩
 rw [← hb0]
 have hown : (w1.alloc (.cells #[.string b0] 9)).ownsRow w.heap.size 9 1 (.slice (some ⟨w1.heap.size, 0, none⟩) 1 1) 1 [.string b0] := World.ownsRow_lit (base := w.heap.size) (e := 9) (size := 1) w1 #[.string b0] 1 hB.size (by unfold maxLen; omega) rfl
 replace hB := hB.alloc hB.size (.cells #[.string b0] 9)
 replace hX := hX.alloc (.cells #[.string b0] 9)
 generalize (w1.alloc (.cells #[.string b0] 9)) = W1 at *
 have HB0 := Lib.hid hb0; clear hb0
 go_wp2_with fail
 go_loopg [3, 4] n (fun g v i wr => ∃ (k m : Nat) (v0 : Value) (ys : List ByteArray), g = n - k ∧ k ≤ n ∧ v = v0 ∧ i = .int .i64 k ∧ wr.ownsRow w.heap.size 9 1 v0 m (ys.map Value.string) ∧ Hid (ys = b0 :: (cs.take k).flatMap copyB) ∧ m ≤ 1 + k * 1001 ∧ Blk wr w.heap.size 24 #[.int .i64 (wn : Int), .slice A n cap] ∧ Below w.heap.size w wr)
 case atStart => exact ⟨0, 1, _, [b0], rfl, Nat.zero_le _, rfl, rfl, hown, Lib.hid rfl, by omega, hX, hB⟩
 case round =>
  clear hown hB hX
  obtain ⟨k, m, v0, ys, hg, hk, rfl, rfl, hown, hys, hm, hX, hB⟩ := hrel
  obtain ⟨va, vc, rfl⟩ := own_slice hown
  have HG := Lib.hid hg; clear hg
  rename World => W2
  have qX := fun i => hX.cell i
  by_cases hlt : k < n
  ·have hlti : (k : Int) < n := by omega
   obtain ⟨b, off, hzk, rfl, hbw, hcellw⟩ := hr.atm (show k < n by omega)
   have hts : (cs.take (k + 1)).flatMap copyB = (cs.take k).flatMap copyB ++ copyB cs[k] := by rw [List.take_succ_eq_append_getElem hzk, List.flatMap_append]; simp
   have hco := hc _ (List.getElem_mem hzk)
   obtain ⟨hcn, hcl⟩ := HH.out _ (List.getElem_mem hzk)
   have hcT : copyB cs[k] = wCopy :: cs[k].ls.map lnT := rfl
   generalize cs[k] = c at *
   obtain ⟨cA, cn, ccap, cls⟩ := c
   obtain ⟨c1, c2, c3, c4⟩ := hco
   simp only [VC.val] at hcellw c1 c2 c3 c4 hcn hcT hcl
   have HTS := Lib.hid hts; have HCT := Lib.hid hcT; have HYS := hys; have HCL := Lib.hid hcl; clear hts hcT hys hzk hcl
   obtain ⟨zs0, hzs0⟩ : ∃ zs0, zs0 = ys.map Value.string := ⟨_, rfl⟩
   rw [← hzs0] at hown
   have HZ0 := Lib.hid hzs0; clear hzs0
   have hwc : wCopy = ⟨#[99, 111, 112, 121]⟩ := rfl
   have HWC := Lib.hid hwc; clear hwc
   go_upto_region 6 with (first
     | (at_builtin; refine wpList_append_any _ rfl _ _ 173 rfl w.heap.size 9 i9 (.string ByteArray.empty) 1 16 Tryz.underlying173 hi hz0 hz1' hz2' rfl (by decide) (.slice va m vc) m zs0 rfl (hown.alloc _) (W2.heap.size + 1) (some ⟨W2.heap.size, 0, none⟩) 1 1 [.string ⟨#[99, 111, 112, 121]⟩] rfl (Rd.blkN (Blk.new W2 9 #[.string ⟨#[99, 111, 112, 121]⟩]) rfl (Nat.lt_succ_self _)).reads (by simp [Value.oneCell']) (by unfold maxLen; omega) (by omega) (by have := hB.size; simp only [World.size_alloc]; omega) (fun v' w' hown' hgrow hob => ?_)))
   have hcell := fun (wx : World) (hx : Below w.heap.size w wx) => (hx.cell (p := ⟨b, off + k, none⟩) hbw).trans hcellw
   replace hX := (hX.alloc (.cells #[.string ⟨#[99, 111, 112, 121]⟩] 9)).kept_own (hown.alloc (.cells #[.string ⟨#[99, 111, 112, 121]⟩] 9)) (by decide) hgrow
   replace hB := (hB.alloc hB.size (.cells #[.string ⟨#[99, 111, 112, 121]⟩] 9)).grown hgrow (by have := hB.size; simp only [World.size_alloc]; omega) (fun g hg => ((hown.alloc (.cells #[.string ⟨#[99, 111, 112, 121]⟩] 9)).lt g hg).1)
   replace hown := hown'
   clear hgrow hob hown' qX
   obtain ⟨va', vc', rfl⟩ := own_slice hown
   rename_i W3
   have hll : cls.length = cn := c4.len2
   have HLL := Lib.hid hll; clear hll
   rw [HZ0.out, show ([Value.string ⟨#[99, 111, 112, 121]⟩] : List Value) = [wCopy].map Value.string from rfl, ← List.map_append] at hown
   go_wp2_with fail
   go_loopg [3, 5] cn (fun g v i wr => ∃ (q m2 : Nat) (v0 : Value) (zs : List ByteArray), g = cn - q ∧ q ≤ cn ∧ v = v0 ∧ i = .int .i64 q ∧ wr.ownsRow w.heap.size 9 1 v0 m2 (zs.map Value.string) ∧ Hid (zs = ys ++ wCopy :: (cls.take q).map lnT) ∧ m2 ≤ m + 1 + q ∧ Blk wr w.heap.size 24 #[.int .i64 (wn : Int), .slice (some ⟨b, off, none⟩) n cap] ∧ Below w.heap.size w wr)
   case atStart => exact ⟨0, m + 1, _, _, rfl, Nat.zero_le _, rfl, rfl, hown, Lib.hid rfl, by omega, hX, hB⟩
   case round =>
    clear hown hB hX
    obtain ⟨q, m2, v0, zs, hg, hq, rfl, rfl, hown, hzs, hm2, hX, hB⟩ := hrel
    obtain ⟨ua, uc, rfl⟩ := own_slice hown
    have HG2 := Lib.hid hg; clear hg
    rename World => W4
    have qX := fun i => hX.cell i
    have hcw := hcell _ hB
    by_cases hqt : q < cn
    ·have hlti2 : (q : Int) < cn := by omega
     obtain ⟨b2, off2, hz2, rfl, hb2, hv0, hv1⟩ := (c4.below hB).at2 hqt
     have hts : (cls.take (q + 1)).map lnT = (cls.take q).map lnT ++ [lnT cls[q]] := by rw [List.take_succ_eq_append_getElem hz2, List.map_append]; rfl
     have hlT : lnT cls[q] = if cls[q].lost then wLost else jnS (wLine :: cls[q].ws.map DZ) ⟨#[32]⟩ := rfl
     have hlo := c3 _ (List.getElem_mem hz2)
     have hlx := HCL.out _ (List.getElem_mem hz2)
     generalize cls[q] = l at *
     obtain ⟨lost, lA, ln, lcap, lws⟩ := l
     obtain ⟨l1, l2, l3⟩ := hlo
     simp only at hv0 hv1 hlT l1 l2 l3 hlx
     have HTS2 := Lib.hid hts; have HLT := Lib.hid hlT; clear hts hlT hz2
     obtain ⟨zz, hzz⟩ : ∃ zz, zz = zs.map Value.string := ⟨_, rfl⟩
     rw [← hzz] at hown
     have HZZ := Lib.hid hzz; clear hzz
     cases lost with
     | true =>
      go_wp2_with (first
        | (at_builtin; refine wpList_append_any _ rfl _ _ 173 rfl w.heap.size 9 i9 (.string ByteArray.empty) 1 16 Tryz.underlying173 hi hz0 hz1' hz2' rfl (by decide) (.slice ua m2 uc) m2 zz rfl (hown.alloc _) (W4.heap.size + 1) (some ⟨W4.heap.size, 0, none⟩) 1 1 [.string ⟨#[108, 111, 115, 116]⟩] rfl (Rd.blkN (Blk.new W4 9 #[.string ⟨#[108, 111, 115, 116]⟩]) rfl (Nat.lt_succ_self _)).reads (by simp [Value.oneCell']) (by unfold maxLen; omega) (by omega) (by have := hB.size; simp only [World.size_alloc]; omega) (fun v' w' hown' hgrow hob => ?_)))
      replace hX := (hX.alloc (.cells #[.string ⟨#[108, 111, 115, 116]⟩] 9)).kept_own (hown.alloc (.cells #[.string ⟨#[108, 111, 115, 116]⟩] 9)) (by decide) hgrow
      replace hB := (hB.alloc hB.size (.cells #[.string ⟨#[108, 111, 115, 116]⟩] 9)).grown hgrow (by have := hB.size; simp only [World.size_alloc]; omega) (fun g hg => ((hown.alloc (.cells #[.string ⟨#[108, 111, 115, 116]⟩] 9)).lt g hg).1)
      go_roundg (cn - (q + 1))
      case measure => rw [HG2.out]; omega
      case rel => exact ⟨q + 1, m2 + 1, _, zs ++ [wLost], rfl, by omega, rfl, by go_num, by rw [List.map_append, ← HZZ.out]; exact hown', Lib.hid (by rw [hzs.out, HTS2.out, HLT.out]; simp), by omega, hX, hB⟩
     | false =>
      have hrl := fun (wx : World) (hx : Below w.heap.size w wx) => row_line lA ln lcap lws wx hlx.1 hlx.2 ((l3.below hx).more hx.size)
      obtain ⟨ll, hll⟩ : ∃ ll, ll = jnS (wLine :: lws.map DZ) ⟨#[32]⟩ := ⟨_, rfl⟩
      rw [← hll] at hrl
      have HRL := Lib.hid hrl; have HLL2 := Lib.hid hll; clear hrl hll hlx
      go_wp2_with (first
        | (go_at_call 121; refine (HRL.out _ hB).mono ?_; rintro e w5 ⟨rfl, hb⟩; replace hown := ownsRow_below' hown hb; replace hX := hX.below hb hX.lt; replace hB := hB.trans (hb.mono hB.size); clear hb qX hv0 hv1 hcw)
        | (at_builtin; refine wpList_append_any _ rfl _ _ 173 rfl w.heap.size 9 i9 (.string ByteArray.empty) 1 16 Tryz.underlying173 hi hz0 hz1' hz2' rfl (by decide) (.slice ua m2 uc) m2 zz rfl (hown.alloc _) (w5.heap.size + 1) (some ⟨w5.heap.size, 0, none⟩) 1 1 [.string ll] rfl (Rd.blkN (Blk.new w5 9 #[.string ll]) rfl (Nat.lt_succ_self _)).reads (by simp [Value.oneCell']) (by unfold maxLen; omega) (by omega) (by have := hB.size; simp only [World.size_alloc]; omega) (fun v' w' hown' hgrow hob => ?_)))
      replace hX := (hX.alloc (.cells #[.string ll] 9)).kept_own (hown.alloc (.cells #[.string ll] 9)) (by decide) hgrow
      replace hB := (hB.alloc hB.size (.cells #[.string ll] 9)).grown hgrow (by have := hB.size; simp only [World.size_alloc]; omega) (fun g hg => ((hown.alloc (.cells #[.string ll] 9)).lt g hg).1)
      go_roundg (cn - (q + 1))
      case measure => rw [HG2.out]; omega
      case rel => exact ⟨q + 1, m2 + 1, _, zs ++ [ll], rfl, by omega, rfl, by go_num, by rw [List.map_append, ← HZZ.out]; exact hown', Lib.hid (by rw [hzs.out, HTS2.out, HLT.out, HLL2.out]; simp), by omega, hX, hB⟩
    ·obtain rfl : q = cn := by omega
     have htk : cls.take q = cls := List.take_of_length_le (by have := HLL.out; omega)
     have hge : ¬ (q : Int) < q := by omega
     have hZ := hzs.out
     rw [htk, ← HCT.out] at hZ
     have HZ := Lib.hid hZ
     clear htk hzs hZ
     go_wp2_with fail
     go_roundg (n - (k + 1))
     case measure => rw [HG.out]; omega
     case rel => exact ⟨k + 1, m2, _, zs, rfl, by omega, rfl, by go_num, hown, Lib.hid (by rw [HZ.out, HYS.out, HTS.out]; simp), by omega, hX, hB⟩
  ·obtain rfl : k = n := by omega
   have hge : ¬ (k : Int) < k := by omega
   have htk : cs.take k = cs := List.take_of_length_le (by have := HL.out; omega)
   have hY : ys = linesB wn cs := by have h := hys.out; rw [htk, HB0.out] at h; exact h
   have hmM : m = M := by have h := hown.1; rw [hY, List.length_map] at h; have := HM.out; omega
   subst hmM
   have hrd := Rd.of_own hown
   rw [hY] at hrd
   have HRD := Lib.hid hrd
   clear hys hY htk hrd hown
   go_wp2_with (go_at_call 122; refine (HSE.out va vc _ HRD.out).mono ?_; rintro e w5 ⟨rfl, hb⟩; replace hB := hB.trans (hb.mono hB.size))
   go_ret
   exact ⟨rfl, hB⟩
end
end Go.Proofs.YtekmnelpkogppaaGreatDoor
