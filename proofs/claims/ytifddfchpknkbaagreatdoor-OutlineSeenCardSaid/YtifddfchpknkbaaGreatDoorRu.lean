import Derived.Test.YtifddfchpknkbaaGreatDoorRv
import Derived.Test.YtifddfchpknkbaaGreatDoorZ
set_option linter.unusedVariables false
set_option linter.unusedSimpArgs false
namespace Go.Proofs.YtifddfchpknkbaaGreatDoor
open Go.RowKit

def readsE (W H F L X Y nl nh xl xh y : Int) (fs : List Fig) (rs : List ByteArray) : Int := if goodQ W H F L X Y nl nh xl xh y fs rs then 0 else 2
def readsL (W H F L X Y nl nh xl xh y : Int) (fs : List Fig) (rs : List ByteArray) : List Tr := if goodQ W H F L X Y nl nh xl xh y fs rs then rdT W H F L X Y nl nh xl xh y fs rs else []
/-- A slice that reads as a list of readings. -/
def IsT (w : World) (v : Value) (y : Int) (tl : List Tr) : Prop := ∃ A n cap, v = .slice A n cap ∧ n ≤ cap ∧ cap ≤ maxLen ∧ Rd w w.heap.size 4 A n (tl.flatMap (rdC y))
theorem IsT.nil (w : World) (y : Int) : IsT w (.slice none 0 0) y [] := ⟨none, 0, 0, rfl, Nat.le_refl _, by unfold maxLen; omega, Rd.nil _ _ _ _⟩
def sh4 (h : Sh) : List Value := [.int .i64 h.f, .int .i64 h.n, .int .i64 h.x, .int .i64 h.y]
set_option maxRecDepth 100000 in
set_option maxHeartbeats 25600000 in
theorem Reads_any (W H F L X Y nl nh xl xh y : Int) (A : Option Addr) (n cap : Nat) (fs : List Fig) (SA : Option Addr) (sn scap : Nat) (rs : List ByteArray) (w : World) (hcap : n ≤ cap) (hcm : cap ≤ maxLen) (hf : ∀ f ∈ fs, f.ok w w.heap.size) (hr : Rd w w.heap.size 1 A n (fs.map Fig.val)) (hsn : sn ≤ scap) (hscm : scap ≤ maxLen) (hss : ∀ r ∈ rs, r.size ≤ maxLen) (hsr : Rd w w.heap.size 1 SA sn (rs.map Value.string)) :
    Calls Tryz.prog 52 #[.agg #[.int .i64 W, .int .i64 H, .int .i64 F, .int .i64 L, .int .i64 X, .int .i64 Y], .slice A n cap, .agg #[.int .i64 nl, .int .i64 nh, .int .i64 xl, .int .i64 xh, .int .i64 y], .slice SA sn scap] w fun e w' => ∃ v, e = .returned (.tuple #[v, .int .i64 (readsE W H F L X Y nl nh xl xh y fs rs)]) ∧ IsT w' v y (readsL W H F L X Y nl nh xl xh y fs rs) ∧ Below w.heap.size w w' := by
  obtain ⟨i86, hi, hz0, hz1', hz2'⟩ := info_parts info86
  have hn : n ≤ maxLen := Nat.le_trans hcap hcm
  cases hask : (stageB W H F L X Y && (compB fs && reachB F nl nh xl xh y))
  · have he : readsE W H F L X Y nl nh xl xh y fs rs = 2 := by simp [readsE, goodQ, askB, hask]
    have hl : readsL W H F L X Y nl nh xl xh y fs rs = [] := by simp [readsL, goodQ, askB, hask]
    rw [he, hl]
    go_enter Tryz.func52, Tryz.ntmps52
    go_upto_region 1 with (fail)
    have hS := blk2_0 w (.cells #[.int .i64 nl, .int .i64 nh, .int .i64 xl, .int .i64 xh, .int .i64 y] 71) 23 #[.int .i64 W, .int .i64 H, .int .i64 F, .int .i64 L, .int .i64 X, .int .i64 Y]
    have hQ := blk2_1 w (.cells #[.int .i64 W, .int .i64 H, .int .i64 F, .int .i64 L, .int .i64 X, .int .i64 Y] 23) 71 #[.int .i64 nl, .int .i64 nh, .int .i64 xl, .int .i64 xh, .int .i64 y]
    have hB := pro_2 w (.cells #[.int .i64 W, .int .i64 H, .int .i64 F, .int .i64 L, .int .i64 X, .int .i64 Y] 23) (.cells #[.int .i64 nl, .int .i64 nh, .int .i64 xl, .int .i64 xh, .int .i64 y] 71)
    generalize (w.alloc (.cells #[.int .i64 W, .int .i64 H, .int .i64 F, .int .i64 L, .int .i64 X, .int .i64 Y] 23)).alloc (.cells #[.int .i64 nl, .int .i64 nh, .int .i64 xl, .int .i64 xh, .int .i64 y] 71) = W0 at *
    have qhS := fun i => Blk.cell hS i
    have qhQ := fun i => Blk.cell hQ i
    go_wp2_with ((go_at_call 112; refine (goodReach_any W H F L X Y nl nh xl xh y A n cap fs _ hn (fun f h => ((hf f h).below hB).more hB.size) (rdB hr hB)).mono ?_; rintro e w1 ⟨rfl, hb⟩; rw [hask]; (try replace hS := hS.below hb hS.lt); (try replace hQ := hQ.below hb hQ.lt); (try replace hr1 := rdB hr1 hb); (try replace hr2 := rdB hr2 hb); replace hB := hB.trans (hb.mono hB.size); (try clear qhS); (try clear qhQ); clear hb; (try have qhS := fun i => Blk.cell hS i); (try have qhQ := fun i => Blk.cell hQ i)))
    go_ret2
    exact ⟨_, rfl, IsT.nil _ _, hB⟩
  have hask2 : askB W H F L X Y nl nh xl xh y fs = true := hask
  cases hsight : sightB W H rs
  · have he : readsE W H F L X Y nl nh xl xh y fs rs = 2 := by simp [readsE, goodQ, hsight]
    have hl : readsL W H F L X Y nl nh xl xh y fs rs = [] := by simp [readsL, goodQ, hsight]
    rw [he, hl]
    go_enter Tryz.func52, Tryz.ntmps52
    go_upto_region 1 with (fail)
    have hS := blk2_0 w (.cells #[.int .i64 nl, .int .i64 nh, .int .i64 xl, .int .i64 xh, .int .i64 y] 71) 23 #[.int .i64 W, .int .i64 H, .int .i64 F, .int .i64 L, .int .i64 X, .int .i64 Y]
    have hQ := blk2_1 w (.cells #[.int .i64 W, .int .i64 H, .int .i64 F, .int .i64 L, .int .i64 X, .int .i64 Y] 23) 71 #[.int .i64 nl, .int .i64 nh, .int .i64 xl, .int .i64 xh, .int .i64 y]
    have hB := pro_2 w (.cells #[.int .i64 W, .int .i64 H, .int .i64 F, .int .i64 L, .int .i64 X, .int .i64 Y] 23) (.cells #[.int .i64 nl, .int .i64 nh, .int .i64 xl, .int .i64 xh, .int .i64 y] 71)
    generalize (w.alloc (.cells #[.int .i64 W, .int .i64 H, .int .i64 F, .int .i64 L, .int .i64 X, .int .i64 Y] 23)).alloc (.cells #[.int .i64 nl, .int .i64 nh, .int .i64 xl, .int .i64 xh, .int .i64 y] 71) = W0 at *
    have qhS := fun i => Blk.cell hS i
    have qhQ := fun i => Blk.cell hQ i
    go_wp2_with (first | (go_at_call 112; refine (goodReach_any W H F L X Y nl nh xl xh y A n cap fs _ hn (fun f h => ((hf f h).below hB).more hB.size) (rdB hr hB)).mono ?_; rintro e w1 ⟨rfl, hb⟩; rw [hask]; (try replace hS := hS.below hb hS.lt); (try replace hQ := hQ.below hb hQ.lt); (try replace hr1 := rdB hr1 hb); (try replace hr2 := rdB hr2 hb); replace hB := hB.trans (hb.mono hB.size); (try clear qhS); (try clear qhQ); clear hb; (try have qhS := fun i => Blk.cell hS i); (try have qhQ := fun i => Blk.cell hQ i)) | (go_at_call 113; refine (goodSight_any W H F L X Y SA sn scap rs _ (Nat.le_trans hsn hscm) hss (rdB hsr hB)).mono ?_; rintro e w1 ⟨rfl, hb⟩; rw [hsight]; (try replace hS := hS.below hb hS.lt); (try replace hQ := hQ.below hb hQ.lt); (try replace hr1 := rdB hr1 hb); (try replace hr2 := rdB hr2 hb); replace hB := hB.trans (hb.mono hB.size); (try clear qhS); (try clear qhQ); clear hb; (try have qhS := fun i => Blk.cell hS i); (try have qhQ := fun i => Blk.cell hQ i)))
    go_ret2
    exact ⟨_, rfl, IsT.nil _ _, hB⟩
  have hg : goodQ W H F L X Y nl nh xl xh y fs rs = true := by simp [goodQ, hask2, hsight]
  have hdm := ask_dims hask2
  have hsm : (shL W H F L X Y nl nh xl xh y fs).length ≤ 216 := by rw [shL, List.length_map]; exact allR_small hask2
  obtain ⟨hs1, hs2⟩ := sight_size hsight
  have hmul := Nat.mul_comm H.toNat W.toNat
  have hsz : ∀ h ∈ shL W H F L X Y nl nh xl xh y fs, h.s.size ≤ (flatS rs).size := fun h hh => by rw [shL_size hh]; omega
  have hagl : (agL W H F L X Y nl nh xl xh y fs rs).length ≤ 216 := Nat.le_trans (List.length_filter_le _ _) hsm
  have hlr := hr.len
  have hlsr := hsr.len
  have he : readsE W H F L X Y nl nh xl xh y fs rs = 0 := by simp [readsE, hg]
  have hrl : readsL W H F L X Y nl nh xl xh y fs rs = rdT W H F L X Y nl nh xl xh y fs rs := by simp [readsL, hg]
  have hfin : (agL W H F L X Y nl nh xl xh y fs rs).flatMap sh4 = (rdT W H F L X Y nl nh xl xh y fs rs).flatMap (rdC y) := by
    rw [agL_rdT, List.flatMap_map]
    rfl
  have hfl : (agL W H F L X Y nl nh xl xh y fs rs).length = (rdT W H F L X Y nl nh xl xh y fs rs).length := by rw [agL_rdT, List.length_map]
  rw [he, hrl]
  go_enter Tryz.func52, Tryz.ntmps52
  go_upto_region 1 with (fail)
  have hS := blk2_0 w (.cells #[.int .i64 nl, .int .i64 nh, .int .i64 xl, .int .i64 xh, .int .i64 y] 71) 23 #[.int .i64 W, .int .i64 H, .int .i64 F, .int .i64 L, .int .i64 X, .int .i64 Y]
  have hQ := blk2_1 w (.cells #[.int .i64 W, .int .i64 H, .int .i64 F, .int .i64 L, .int .i64 X, .int .i64 Y] 23) 71 #[.int .i64 nl, .int .i64 nh, .int .i64 xl, .int .i64 xh, .int .i64 y]
  have hB := pro_2 w (.cells #[.int .i64 W, .int .i64 H, .int .i64 F, .int .i64 L, .int .i64 X, .int .i64 Y] 23) (.cells #[.int .i64 nl, .int .i64 nh, .int .i64 xl, .int .i64 xh, .int .i64 y] 71)
  generalize (w.alloc (.cells #[.int .i64 W, .int .i64 H, .int .i64 F, .int .i64 L, .int .i64 X, .int .i64 Y] 23)).alloc (.cells #[.int .i64 nl, .int .i64 nh, .int .i64 xl, .int .i64 xh, .int .i64 y] 71) = W0 at *
  have qhS := fun i => Blk.cell hS i
  have qhQ := fun i => Blk.cell hQ i
  go_upto_region 3 with (first | (go_at_call 112; refine (goodReach_any W H F L X Y nl nh xl xh y A n cap fs _ hn (fun f h => ((hf f h).below hB).more hB.size) (rdB hr hB)).mono ?_; rintro e w1 ⟨rfl, hb⟩; rw [hask]; (try replace hS := hS.below hb hS.lt); (try replace hQ := hQ.below hb hQ.lt); (try replace hr1 := rdB hr1 hb); (try replace hr2 := rdB hr2 hb); replace hB := hB.trans (hb.mono hB.size); (try clear qhS); (try clear qhQ); clear hb; (try have qhS := fun i => Blk.cell hS i); (try have qhQ := fun i => Blk.cell hQ i)) | (go_at_call 113; refine (goodSight_any W H F L X Y SA sn scap rs _ (Nat.le_trans hsn hscm) hss (rdB hsr hB)).mono ?_; rintro e w1 ⟨rfl, hb⟩; rw [hsight]; (try replace hS := hS.below hb hS.lt); (try replace hQ := hQ.below hb hQ.lt); (try replace hr1 := rdB hr1 hb); (try replace hr2 := rdB hr2 hb); replace hB := hB.trans (hb.mono hB.size); (try clear qhS); (try clear qhQ); clear hb; (try have qhS := fun i => Blk.cell hS i); (try have qhQ := fun i => Blk.cell hQ i)))
  go_wp2_with (first | (go_at_call 115; refine (shades_any W H F L X Y nl nh xl xh y A n cap fs _ hcap hcm (fun f h => ((hf f h).below hB).more hB.size) (rdB hr hB) hask2).mono ?_; rintro e w1 ⟨v1, rfl, own1, hb⟩; obtain ⟨A1, c1, rfl⟩ := own_slice own1; have hr1 := Rd.of_own own1; clear own1; (try replace hS := hS.below hb hS.lt); (try replace hQ := hQ.below hb hQ.lt); replace hB := hB.trans (hb.mono hB.size); (try clear qhS); (try clear qhQ); clear hb; (try have qhS := fun i => Blk.cell hS i); (try have qhQ := fun i => Blk.cell hQ i)) | (go_at_call 116; refine (flat_any SA sn scap rs _ (rdB hsr hB) (by omega) hsn (by omega)).mono ?_; rintro e w1 ⟨rfl, hb⟩; replace hr1 := rdB hr1 hb; (try replace hS := hS.below hb hS.lt); (try replace hQ := hQ.below hb hQ.lt); replace hB := hB.trans (hb.mono hB.size); (try clear qhS); (try clear qhQ); clear hb; (try have qhS := fun i => Blk.cell hS i); (try have qhQ := fun i => Blk.cell hQ i)) | (go_at_call 114; refine (seen_any A1 (shL W H F L X Y nl nh xl xh y fs).length c1 (shL W H F L X Y nl nh xl xh y fs) (flatS rs) _ (by omega) hsz (by unfold maxLen; omega) hr1).mono ?_; rintro e w1 ⟨v2, rfl, own2, hb⟩; obtain ⟨A2, c2, rfl⟩ := own_slice own2; have hr2 := Rd.of_own own2; clear own2 hr1; (try replace hS := hS.below hb hS.lt); (try replace hQ := hQ.below hb hQ.lt); replace hB := hB.trans (hb.mono hB.size); (try clear qhS); (try clear qhQ); clear hb; (try have qhS := fun i => Blk.cell hS i); (try have qhQ := fun i => Blk.cell hQ i)))
  change Rd _ _ 5 A2 (agL W H F L X Y nl nh xl xh y fs rs).length ((agL W H F L X Y nl nh xl xh y fs rs).flatMap shC) at hr2
  have HFL := Lib.hid hfl; have HFIN := Lib.hid hfin; clear hfin hfl hsz hs1 hs2 hmul hask hsight he hrl hg
  change (agL W H F L X Y nl nh xl xh y fs rs).length ≤ 216 at hagl
  obtain ⟨l, hl⟩ : ∃ l, l = agL W H F L X Y nl nh xl xh y fs rs := ⟨_, rfl⟩
  have hlen0 : (List.filter (fun h => agreeB h.s (flatS rs)) (shL W H F L X Y nl nh xl xh y fs)).length = l.length := by rw [hl]; rfl
  rw [← hl] at hr2 hagl HFL HFIN
  rw [hlen0]
  clear hl hlen0
  rename World => w1
  have hBs := hB.size
  have hB0 := hB
  obtain ⟨N, hN⟩ : ∃ N, N = l.length := ⟨_, rfl⟩
  rw [← hN] at hr2 hagl HFL ⊢
  have HN := Lib.hid hN; clear hN
  go_loopg [10, 32] N (fun g v i wr => ∃ (k : Nat) (v0 : Value), g = N - k ∧ k ≤ N ∧ v = v0 ∧ i = .int .i64 k ∧ wr.ownsRow w1.heap.size 86 4 v0 k ((l.take k).flatMap sh4) ∧ Below w1.heap.size w1 wr)
  case atStart => exact ⟨0, _, rfl, Nat.zero_le _, rfl, rfl, World.ownsRow_nil _ _ _ _, Below.refl _ _⟩
  case round =>
    obtain ⟨k, v0, hg, hk, rfl, rfl, hown, hB1⟩ := hrel
    have HG := Lib.hid hg; clear hg
    obtain ⟨va, vc, rfl⟩ := own_slice hown
    rename World => W2
    by_cases hlt : k < N
    · have hlti : (k : Int) < N := by omega
      obtain ⟨b, off, hz, rfl, hbb, c0, c1, c2, c3, c4⟩ := (rdB hr2 hB1).at5 hlt
      have htk : (l.take (k + 1)).flatMap sh4 = (l.take k).flatMap sh4 ++ sh4 l[k] := by rw [List.take_succ_eq_append_getElem hz, List.flatMap_append]; simp
      generalize l[k] = h at *
      obtain ⟨f, pn, px, py, s⟩ := h
      dsimp only [sh4] at c0 c1 c2 c3 c4 htk
      have HTK := Lib.hid htk; clear htk
      go_upto_region 7 with (fail)
      have hbx := Blk.new W2 156 #[.int .i64 f, .int .i64 pn, .int .i64 px, .int .i64 py, .string s]
      have hown1 := hown.alloc (.cells #[.int .i64 f, .int .i64 pn, .int .i64 px, .int .i64 py, .string s] 156)
      have hB2 := hB1.alloc hB1.size (.cells #[.int .i64 f, .int .i64 pn, .int .i64 px, .int .i64 py, .string s] 156)
      clear c0 c1 c2 c3 c4
      generalize W2.alloc (.cells #[.int .i64 f, .int .i64 pn, .int .i64 px, .int .i64 py, .string s] 156) = W3 at *
      have hcx := fun i => hbx.cell i
      have hlx := hbx.lt
      go_wp2_with (first
        | (at_builtin; refine wpList_append_any _ rfl _ _ 72 rfl w1.heap.size 86 i86 (.agg #[.int .i64 0, .int .i64 0, .int .i64 0, .int .i64 0]) 4 32 Tryz.underlying72 hi hz0 hz1' hz2' rfl (by decide) (.slice va k vc) k ((l.take k).flatMap sh4) rfl (hown1.alloc _) (W3.heap.size + 1) (some ⟨W3.heap.size, 0, none⟩) 1 1 [.int .i64 f, .int .i64 pn, .int .i64 px, .int .i64 py] rfl (Rd.blkN (Blk.new W3 86 #[.int .i64 f, .int .i64 pn, .int .i64 px, .int .i64 py]) rfl (Nat.lt_succ_self _)).reads (by simp [Value.oneCell']) (by unfold maxLen; omega) (by omega) (by have := hB2.size; simp only [World.size_alloc]; omega) (fun v' w' hown' hgrow hob => ?_))
        | go_in)
      have hown0 := hown1.alloc (.cells #[.int .i64 f, .int .i64 pn, .int .i64 px, .int .i64 py] 86)
      have hB3 := (hB2.alloc hB2.size (.cells #[.int .i64 f, .int .i64 pn, .int .i64 px, .int .i64 py] 86)).grown hgrow (by have := hB2.size; simp only [World.size_alloc]; omega) (fun g hg => (hown0.lt g hg).1)
      go_roundg (N - (k + 1))
      case measure => rw [HG.out]; omega
      case rel => exact ⟨k + 1, _, rfl, by omega, rfl, by go_num, by rw [HTK.out]; exact hown', hB3⟩
    · obtain rfl : k = N := by omega
      have htk : l.take k = l := List.take_of_length_le (by have := HN.out; omega)
      rw [htk] at hown
      have hge : ¬ (k : Int) < k := by omega
      go_wp2_with (fail)
      go_ret2
      exact ⟨_, rfl, ⟨va, k, vc, rfl, own_le0 hown, own_cap hown, by rw [← HFIN.out]; exact Rd.of_own hown⟩, hB0.trans (hB1.mono hB0.size)⟩
end Go.Proofs.YtifddfchpknkbaaGreatDoor
