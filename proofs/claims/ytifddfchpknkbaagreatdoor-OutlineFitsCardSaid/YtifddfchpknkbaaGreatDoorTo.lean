import Derived.Test.YtifddfchpknkbaaGreatDoorTd
import Derived.Test.YtifddfchpknkbaaGreatDoorBC
import Derived.Laws.OwnMore
import Derived.BigQuiet
set_option linter.unusedVariables false
set_option linter.unusedSimpArgs false
namespace Go.Proofs.YtifddfchpknkbaaGreatDoor
open Go.RowKit

theorem IsL.of_own {w : World} {base n : Nat} {e : TypeId} {v : Value} {xs : List Value} (h : w.ownsRow base e 1 v n xs) : IsL w v xs := by
  obtain ⟨A, c, rfl⟩ := own_slice h
  refine ⟨A, n, c, rfl, ?_, ?_, Rd.of_own h⟩
  · rcases h.2 with ⟨h1, h2⟩ | ⟨g, cap, cur, hv, _, _, hc, _⟩
    · omega
    · injection hv with _ _ h3; omega
  · rcases h.2 with ⟨h1, h2⟩ | ⟨g, cap, cur, hv, _, _, hc, hc2, _⟩
    · injection h1 with _ _ h3; unfold maxLen; omega
    · injection hv with _ _ h3; omega
def toldOk (W H F L X Y nl nh xl xh y : Int) (fs : List Fig) (fig : Int) : Bool := askB W H F L X Y nl nh xl xh y fs && inB fig 0 (fs.length - 1)
def toldE (W H F L X Y nl nh xl xh y : Int) (fs : List Fig) (fig : Int) : Int := if toldOk W H F L X Y nl nh xl xh y fs fig then 0 else 2
def toldR (W H F L X Y nl nh xl xh y : Int) (fs : List Fig) (fig : Int) : List Int := if toldOk W H F L X Y nl nh xl xh y fs fig then toldL (shL W H F L X Y nl nh xl xh y fs) fig nl nh else []

set_option maxRecDepth 100000 in
set_option maxHeartbeats 1600000 in
theorem Told_any (W H F L X Y nl nh xl xh y : Int) (A : Option Addr) (n cap : Nat) (fs : List Fig) (fig : Int) (w : World) (hn : n ≤ cap) (hcm : cap ≤ maxLen) (hf : ∀ f ∈ fs, f.ok w w.heap.size) (hr : Rd w w.heap.size 1 A n (fs.map Fig.val)) :
    Calls Tryz.prog 69 #[.agg #[.int .i64 W, .int .i64 H, .int .i64 F, .int .i64 L, .int .i64 X, .int .i64 Y], .slice A n cap, .agg #[.int .i64 nl, .int .i64 nh, .int .i64 xl, .int .i64 xh, .int .i64 y], .int .i64 fig] w fun e w' => ∃ v, e = .returned (.tuple #[v, .int .i64 (toldE W H F L X Y nl nh xl xh y fs fig)]) ∧ IsL w' v ((toldR W H F L X Y nl nh xl xh y fs fig).map (Value.int .i64)) ∧ Below w.heap.size w w' := by
  have hA : Blk ((w.alloc (.cells #[.int .i64 W, .int .i64 H, .int .i64 F, .int .i64 L, .int .i64 X, .int .i64 Y] 23)).alloc (.cells #[.int .i64 nl, .int .i64 nh, .int .i64 xl, .int .i64 xh, .int .i64 y] 71)) w.heap.size 23 #[.int .i64 W, .int .i64 H, .int .i64 F, .int .i64 L, .int .i64 X, .int .i64 Y] := (Blk.new w 23 #[.int .i64 W, .int .i64 H, .int .i64 F, .int .i64 L, .int .i64 X, .int .i64 Y]).alloc _
  have hBk : Blk ((w.alloc (.cells #[.int .i64 W, .int .i64 H, .int .i64 F, .int .i64 L, .int .i64 X, .int .i64 Y] 23)).alloc (.cells #[.int .i64 nl, .int .i64 nh, .int .i64 xl, .int .i64 xh, .int .i64 y] 71)) (w.heap.size + 1) 71 #[.int .i64 nl, .int .i64 nh, .int .i64 xl, .int .i64 xh, .int .i64 y] := blk2 w _ 71 #[.int .i64 nl, .int .i64 nh, .int .i64 xl, .int .i64 xh, .int .i64 y]
  have hB2 : Below w.heap.size w ((w.alloc (.cells #[.int .i64 W, .int .i64 H, .int .i64 F, .int .i64 L, .int .i64 X, .int .i64 Y] 23)).alloc (.cells #[.int .i64 nl, .int .i64 nh, .int .i64 xl, .int .i64 xh, .int .i64 y] 71)) := ((Below.refl _ w).alloc (Nat.le_refl _) _).alloc (by simp only [World.size_alloc]; omega) _
  have hqA := fun i => hA.cell i; have hqB := fun i => hBk.cell i; have hlA := hA.lt; have hlB := hBk.lt
  cases hask : (stageB W H F L X Y && (compB fs && reachB F nl nh xl xh y))
  · have he : toldE W H F L X Y nl nh xl xh y fs fig = 2 := by simp [toldE, toldOk, askB, hask]
    have hl : toldR W H F L X Y nl nh xl xh y fs fig = [] := by simp [toldR, toldOk, askB, hask]
    rw [he, hl]
    go_enter Tryz.func69, Tryz.ntmps69
    go_wp2_with (first | (go_at_call 112; refine (goodReach_any W H F L X Y nl nh xl xh y A n cap fs _ (Nat.le_trans hn hcm) (fun f hf' => ((hf f hf').below hB2).more hB2.size) ((hr.below hB2).more hB2.size)).mono ?_; rintro e w1 ⟨rfl, hb⟩; rw [hask]; replace hA := hA.below hb hA.lt; replace hBk := hBk.below hb hBk.lt; replace hB2 := hB2.trans (hb.mono hB2.size); replace hqA := fun i => hA.cell i; replace hqB := fun i => hBk.cell i; replace hlA := hA.lt; replace hlB := hBk.lt; clear hb))
    go_ret2
    exact ⟨_, rfl, IsL.nil _, hB2⟩
  · have hask2 : askB W H F L X Y nl nh xl xh y fs = true := hask
    have hdm := ask_dims hask2
    have hlr := hr.len
    cases hin0 : inB fig 0 ((fs.length : Int) - 1)
    · have he : toldE W H F L X Y nl nh xl xh y fs fig = 2 := by simp [toldE, toldOk, hin0]
      have hl : toldR W H F L X Y nl nh xl xh y fs fig = [] := by simp [toldR, toldOk, hin0]
      rw [he, hl]
      have hin : inB fig 0 ((n : Int) - 1) = false := by rw [← hlr]; exact hin0
      go_enter Tryz.func69, Tryz.ntmps69
      go_wp2_with (first | (go_at_call 112; refine (goodReach_any W H F L X Y nl nh xl xh y A n cap fs _ (Nat.le_trans hn hcm) (fun f hf' => ((hf f hf').below hB2).more hB2.size) ((hr.below hB2).more hB2.size)).mono ?_; rintro e w1 ⟨rfl, hb⟩; rw [hask]; replace hA := hA.below hb hA.lt; replace hBk := hBk.below hb hBk.lt; replace hB2 := hB2.trans (hb.mono hB2.size); replace hqA := fun i => hA.cell i; replace hqB := fun i => hBk.cell i; replace hlA := hA.lt; replace hlB := hBk.lt; clear hb) | (go_at_call 130; refine (within_any _ _ _ _).mono ?_; rintro e w1 ⟨rfl, rfl⟩; rw [hin]))
      go_ret2
      exact ⟨_, rfl, IsL.nil _, hB2⟩
    · have he : toldE W H F L X Y nl nh xl xh y fs fig = 0 := by simp [toldE, toldOk, hask2, hin0]
      have hl : toldR W H F L X Y nl nh xl xh y fs fig = toldL (shL W H F L X Y nl nh xl xh y fs) fig nl nh := by simp [toldR, toldOk, hask2, hin0]
      rw [he, hl]
      have hin : inB fig 0 ((n : Int) - 1) = true := by rw [← hlr]; exact hin0
      have hsm : (shL W H F L X Y nl nh xl xh y fs).length ≤ 216 := by rw [shL, List.length_map]; exact allR_small hask2
      have hsz2 : ∀ h ∈ shL W H F L X Y nl nh xl xh y fs, h.s.size = W.toNat * H.toNat := fun h hh => shL_size hh
      have hst := stageB_nums (show stageB W H F L X Y = true by simp only [askB, Bool.and_eq_true] at hask2; exact hask2.1)
      have hrn := reachB_nums (show reachB F nl nh xl xh y = true by simp only [askB, Bool.and_eq_true] at hask2; exact hask2.2.2)
      go_enter Tryz.func69, Tryz.ntmps69
      go_wp2_with (first | (go_at_call 112; refine (goodReach_any W H F L X Y nl nh xl xh y A n cap fs _ (Nat.le_trans hn hcm) (fun f hf' => ((hf f hf').below hB2).more hB2.size) ((hr.below hB2).more hB2.size)).mono ?_; rintro e w1 ⟨rfl, hb⟩; rw [hask]; replace hA := hA.below hb hA.lt; replace hBk := hBk.below hb hBk.lt; replace hB2 := hB2.trans (hb.mono hB2.size); replace hqA := fun i => hA.cell i; replace hqB := fun i => hBk.cell i; replace hlA := hA.lt; replace hlB := hBk.lt; clear hb) | (go_at_call 130; refine (within_any _ _ _ _).mono ?_; rintro e w1 ⟨rfl, rfl⟩; rw [hin]))
      clear hqA hqB
      refine wp_region_G (fun w' => Blk w' w.heap.size 23 #[.int .i64 W, .int .i64 H, .int .i64 F, .int .i64 L, .int .i64 X, .int .i64 Y] ∧ Blk w' (w.heap.size + 1) 71 #[.int .i64 nl, .int .i64 nh, .int .i64 xl, .int .i64 xh, .int .i64 y]) 9 (by kernel_rfl) ?_
      replace hA := hA.drew; replace hBk := hBk.drew; replace hB2 := hB2.drew
      have hTT := And.intro hA hBk
      refine wpG_take (i := 0) (v := ?v0) rfl (by kernel_rfl) (by kernel_rfl) (by kernel_rfl) (by kernel_rfl) (fun _ _ _ h => h) (Or.inl ⟨by rfl, ?hy0⟩) hTT ?rest0
      case hy0 => intro wq hSw; have hq1 := fun i => hSw.1.cell i; have hq2 := fun i => hSw.2.cell i; go_simp <;> with_reducible rfl
      simp only [List.getElem_toArray, List.getElem_cons_zero, List.getElem_cons_succ, Act.put, List.setIfInBounds_toArray, List.set_cons_zero, List.set_cons_succ]
      refine wpG_take (i := 1) (v := ?v1) rfl (by kernel_rfl) (by kernel_rfl) (by kernel_rfl) (by kernel_rfl) (fun _ _ _ h => h) (Or.inl ⟨by rfl, ?hy1⟩) hTT ?rest1
      case hy1 => intro wq hSw; have hq1 := fun i => hSw.1.cell i; have hq2 := fun i => hSw.2.cell i; go_simp <;> with_reducible rfl
      simp only [List.getElem_toArray, List.getElem_cons_zero, List.getElem_cons_succ, Act.put, List.setIfInBounds_toArray, List.set_cons_zero, List.set_cons_succ]
      refine wpG_take (i := 2) (v := ?v2) rfl (by kernel_rfl) (by kernel_rfl) (by kernel_rfl) (by kernel_rfl) (fun _ _ _ h => h) (Or.inl ⟨by rfl, ?hy2⟩) hTT ?rest2
      case hy2 => intro wq hSw; have hq1 := fun i => hSw.1.cell i; have hq2 := fun i => hSw.2.cell i; go_simp <;> with_reducible rfl
      simp only [List.getElem_toArray, List.getElem_cons_zero, List.getElem_cons_succ, Act.put, List.setIfInBounds_toArray, List.set_cons_zero, List.set_cons_succ]
      refine wpG_take (i := 4) (v := ?v4) rfl (by kernel_rfl) (by kernel_rfl) (by kernel_rfl) (by kernel_rfl) (fun _ _ _ h => h) (Or.inl ⟨by rfl, ?hy4⟩) hTT ?rest4
      case hy4 => intro wq hSw; have hq1 := fun i => hSw.1.cell i; have hq2 := fun i => hSw.2.cell i; go_simp <;> with_reducible rfl
      simp only [List.getElem_toArray, List.getElem_cons_zero, List.getElem_cons_succ, Act.put, List.setIfInBounds_toArray, List.set_cons_zero, List.set_cons_succ]
      refine wpG_take (i := 5) (v := ?v5) rfl (by kernel_rfl) (by kernel_rfl) (by kernel_rfl) (by kernel_rfl) (fun _ _ _ h => h) (Or.inl ⟨by rfl, ?hy5⟩) hTT ?rest5
      case hy5 => intro wq hSw; have hq1 := fun i => hSw.1.cell i; have hq2 := fun i => hSw.2.cell i; go_simp <;> with_reducible rfl
      simp only [List.getElem_toArray, List.getElem_cons_zero, List.getElem_cons_succ, Act.put, List.setIfInBounds_toArray, List.set_cons_zero, List.set_cons_succ]
      refine wpG_take (i := 6) (v := ?v6) rfl (by kernel_rfl) (by kernel_rfl) (by kernel_rfl) (by kernel_rfl) (fun _ _ _ h => h) (Or.inl ⟨by rfl, ?hy6⟩) hTT ?rest6
      case hy6 => intro wq hSw; have hq1 := fun i => hSw.1.cell i; have hq2 := fun i => hSw.2.cell i; go_simp <;> with_reducible rfl
      simp only [List.getElem_toArray, List.getElem_cons_zero, List.getElem_cons_succ, Act.put, List.setIfInBounds_toArray, List.set_cons_zero, List.set_cons_succ]
      refine wpG_one (i := 3) rfl (by kernel_rfl) (fun K hK => ?_)
      go_simp
      refine (shades_any W H F L X Y nl nh xl xh y A n cap fs _ hn hcm (fun f hf' => ((hf f hf').below hB2).more hB2.size) ((hr.below hB2).more hB2.size) hask2).mono ?_; rintro e w2 ⟨v1, rfl, own1, hb⟩; obtain ⟨A1, c1, rfl⟩ := own_slice own1; have hr1 := Rd.of_own own1; clear own1
      have hA1 := hA.below hb hA.lt; have hBk1 := hBk.below hb hBk.lt; have hB3 := hB2.trans (hb.mono hB2.size); clear hTT; have hTT := And.intro hA1 hBk1; dsimp only
      refine hK _ _ (.inr hTT) ?_
      clear hK K
      try simp only [List.getElem_toArray, List.getElem_cons_zero, List.getElem_cons_succ, Act.put, List.setIfInBounds_toArray, List.set_cons_zero, List.set_cons_succ]
      refine wpG_one (i := 7) rfl (by kernel_rfl) (fun K hK => ?_)
      go_simp
      refine (told_any A1 _ c1 _ fig nl nh (W.toNat * H.toNat) _ (by omega) hsz2 (by omega) (by omega) (by omega) (by omega) hr1).mono ?_; rintro e w3 ⟨v2, rfl, own2, hb⟩
      have hA2 := hA1.below hb hA1.lt; have hBk2 := hBk1.below hb hBk1.lt; have hB4 := hB3.trans (hb.mono hB3.size); clear hTT; have hTT := And.intro hA2 hBk2; dsimp only
      refine hK _ _ (.inr hTT) ?_
      clear hK K
      try simp only [List.getElem_toArray, List.getElem_cons_zero, List.getElem_cons_succ, Act.put, List.setIfInBounds_toArray, List.set_cons_zero, List.set_cons_succ]
      refine wpG_take (i := 8) (v := ?v8) rfl (by kernel_rfl) (by kernel_rfl) (by kernel_rfl) (by kernel_rfl) (fun _ _ _ h => h) (Or.inl ⟨by rfl, ?hy8⟩) hTT ?rest8
      case hy8 => intro wq hSw; have hq1 := fun i => hSw.1.cell i; have hq2 := fun i => hSw.2.cell i; go_simp <;> with_reducible rfl
      simp only [List.getElem_toArray, List.getElem_cons_zero, List.getElem_cons_succ, Act.put, List.setIfInBounds_toArray, List.set_cons_zero, List.set_cons_succ]
      refine wpG_one (i := 9) rfl (by kernel_rfl) (fun K hK => ?_)
      go_simp
      refine hK _ _ (.inl rfl) ?_
      clear hK K
      try simp only [List.getElem_toArray, List.getElem_cons_zero, List.getElem_cons_succ, Act.put, List.setIfInBounds_toArray, List.set_cons_zero, List.set_cons_succ]
      refine wpG_done (by kernel_rfl) ?_ _
      go_wp2_with (fail)
      go_ret2
      exact ⟨_, rfl, IsL.of_own own2, hB4⟩
end Go.Proofs.YtifddfchpknkbaaGreatDoor

namespace Go.Proofs.YtifddfchpknkbaaGreatDoor
open Go.RowKit

def u64V (d : Nat) : Value := .int .u64 (d : Int)
set_option maxRecDepth 100000 in
theorem less_any (a b : Nat) (w : World) : Calls Tryz.prog 215 #[.int .u64 (a : Int), .int .u64 (b : Int)] w fun e w' => e = .returned (.bool (decide (a < b))) ∧ w = w' := by
  have hnan : ∀ (x : Int) (w : World), Calls Tryz.prog 235 #[.int .u64 x] w fun e w' => e = .returned (.bool false) ∧ w = w' := by
    intro x w
    go_enter Tryz.func235, Tryz.ntmps235
    have hx : (x != x) = false := by simp
    go_wp2
    go_ret
    exact ⟨rfl, rfl⟩
  by_cases h : a < b
  · have h' : ((a : Int) < b) := by omega
    rw [decide_eq_true h]
    go_enter Tryz.func215, Tryz.ntmps215
    go_wp2_with (first | (go_at_call 235; refine (hnan _ _).mono ?_; rintro e w1 ⟨rfl, rfl⟩))
    go_ret
    exact ⟨rfl, rfl⟩
  · have h' : ¬ ((a : Int) < b) := by omega
    rw [decide_eq_false h]
    go_enter Tryz.func215, Tryz.ntmps215
    go_wp2_with (first | (go_at_call 235; refine (hnan _ _).mono ?_; rintro e w1 ⟨rfl, rfl⟩))
    go_ret
    exact ⟨rfl, rfl⟩

theorem u64_at {w : World} {base g n cap : Nat} {ds : List Nat} (h : w.ownsRow base 177 1 (.slice (some ⟨g, 0, none⟩) n cap) n (ds.map u64V)) {j : Nat} (hj : j < ds.length) : w.cell? ⟨g, j, none⟩ = some (.int .u64 (ds[j] : Int)) := by
  have hl := h.1
  rw [List.length_map] at hl
  rw [h.cellAt j (by omega)]
  simp [u64V, hj]

set_option maxRecDepth 100000 in
set_option maxHeartbeats 1600000 in
theorem insertion_any (base n : Nat) (v : Value) (ds : List Nat) (w : World) (hn : n ≤ 1000) (hbase : base ≤ w.heap.size) (hown : w.ownsRow base 177 1 v n (ds.map u64V)) :
    Calls Tryz.prog 209 #[v, .int .i64 0, .int .i64 n] w fun e w' => e = .returned (.tuple #[]) ∧ (∃ ds' : List Nat, ds'.Perm ds ∧ w'.ownsRow base 177 1 v n (ds'.map u64V)) ∧ Below base w w' := by
  have hlen : ds.length = n := by have := hown.1; rw [List.length_map] at this; omega
  rcases Nat.eq_zero_or_pos n with h0 | h0
  · subst h0
    obtain ⟨va, vc, rfl⟩ := own_slice hown
    go_enter Tryz.func209, Tryz.ntmps209
    go_wp2
    go_loop [6] (fun i => i = .int .i64 1) (fun _ => 0)
    case atStart => rfl
    case round =>
      subst hrel
      go_wp2
      go_end0
      exact ⟨rfl, ⟨ds, .refl _, hown⟩, Below.refl _ _⟩
  · obtain ⟨g, cap, rfl, hgb, hgl⟩ := hown.form h0
    go_enter Tryz.func209, Tryz.ntmps209
    go_wp2
    go_loopg [6] (n - 1) (fun gg i wr => ∃ (k : Nat) (xs : List Nat), gg = n - k ∧ 1 ≤ k ∧ k ≤ n ∧ i = .int .i64 k ∧ xs.Perm ds ∧ wr.ownsRow base 177 1 (.slice (some ⟨g, 0, none⟩) n cap) n (xs.map u64V) ∧ Below base w wr)
    case atStart => exact ⟨1, ds, rfl, by omega, by omega, rfl, .refl _, hown, Below.refl _ _⟩
    case round =>
      clear hown
      obtain ⟨k, xs, hg, hk1, hk, rfl, hp, hown, hB⟩ := hrel
      have HG := Lib.hid hg; clear hg
      by_cases hlt : k < n
      · go_wp2
        go_loopg [7] k (fun gg i wr => ∃ (j : Nat) (xs : List Nat), gg = j ∧ j ≤ k ∧ i = .int .i64 j ∧ xs.Perm ds ∧ wr.ownsRow base 177 1 (.slice (some ⟨g, 0, none⟩) n cap) n (xs.map u64V) ∧ Below base w wr)
        case atStart => exact ⟨k, xs, rfl, Nat.le_refl _, rfl, hp, hown, hB⟩
        case round =>
          clear hown hB hp
          obtain ⟨j, xs, hg, hj, rfl, hp, hown, hB⟩ := hrel
          have HG2 := Lib.hid hg; clear hg
          have hxl : xs.length = n := by rw [hp.length_eq]; exact hlen
          have HP := Lib.hid hp; clear hp
          rcases Nat.eq_zero_or_pos j with hj0 | hj0
          · subst hj0
            go_wp2
            refine wp_region_blw (by kernel_rfl) (by kernel_rfl) ?_
            repeat (go_big_quiet_step (fail))
            refine wpQuiet_nil ?_
            rintro W3 ⟨⟨_, hb3⟩, rfl⟩
            go_wp2
            go_roundg (n - (k + 1))
            case measure => rw [HG.out]; omega
            case rel => exact ⟨k + 1, xs, rfl, by omega, by omega, by go_num, HP.out, ownsRow_below' hown hb3, hB.trans (hb3.mono (by have := hB.size; omega))⟩
          · obtain ⟨i, rfl⟩ : ∃ i, j = i + 1 := ⟨j - 1, by omega⟩
            have hc1 := u64_at hown (j := i + 1) (by omega)
            have hc2 := u64_at hown (j := i) (by omega)
            have hgl2 : g < wr.heap.size := by have := hB.size; have := hown.lt g rfl; omega
            have hperm : ((xs.set (i + 1) xs[i]).set i xs[i + 1]).Perm xs := @List.set_set_perm Nat xs (i + 1) i (by omega) (by omega)
            have hst1 := hown.stored (i + 1) (u64V xs[i])
            have HPM := Lib.hid hperm; clear hperm
            have hset : ((xs.map u64V).set (i + 1) (u64V xs[i])).set i (u64V xs[i + 1]) = ((xs.set (i + 1) xs[i]).set i xs[i + 1]).map u64V := by rw [List.map_set, List.map_set]
            have HSET := Lib.hid hset; clear hset
            have hin : i + 1 < n := by omega
            have hin2 : i < n := by omega
            generalize xs[i + 1] = b at *
            generalize xs[i] = a at *
            have hd1 := fun (p : Blw wr.heap.size wr) => blw_cell (a := ⟨g, i + 1, none⟩) hgl2 hc1 p
            have hd2 := fun (p : Blw wr.heap.size wr) => blw_cell (a := ⟨g, i, none⟩) hgl2 hc2 p
            by_cases hba : b < a
            · have HBA := Lib.hid (decide_eq_true hba)
              go_wp2
              refine wp_region_blw (by kernel_rfl) (by kernel_rfl) ?_
              repeat (go_big_quiet_step (first | (go_at_call 215; exact Calls.blw_of_same _ (less_any _ _ _))))
              refine wpQuiet_nil ?_
              rintro W3 ⟨⟨_, hb3⟩, rfl⟩
              rw [HBA.out]
              have own3 := ownsRow_below' hown hb3
              have hB3 := hB.trans (hb3.mono (show base ≤ wr.heap.size by have := hB.size; omega))
              have e1 : W3.cell? ⟨g, i + 1, none⟩ = some (.int .u64 (b : Int)) := (hb3.cell (p := ⟨g, i + 1, none⟩) hgl2).trans hc1
              have e2 : W3.cell? ⟨g, i, none⟩ = some (.int .u64 (a : Int)) := (hb3.cell (p := ⟨g, i, none⟩) hgl2).trans hc2
              have z1 := own3.frozenAt (i + 1)
              have z2 := own3.frozenAt i
              clear hd1 hd2 hc1 hc2 hst1
              go_wp2
              go_region
              go_wp2
              go_roundg i
              case measure => rw [HG2.out]; omega
              case rel =>
                have k1 := own3.stored (i + 1) (u64V a)
                have k2 := k1.1.stored i (u64V b)
                rw [HSET.out] at k2
                exact ⟨i, _, rfl, by omega, by go_num, HPM.out.trans HP.out, k2.1, ((hB3.setCell (p := ⟨g, i + 1, none⟩) hgb _).setCell (p := ⟨g, i, none⟩) hgb _).drew⟩
            · have HBA := Lib.hid (decide_eq_false hba)
              go_wp2
              refine wp_region_blw (by kernel_rfl) (by kernel_rfl) ?_
              repeat (go_big_quiet_step (first | (go_at_call 215; exact Calls.blw_of_same _ (less_any _ _ _))))
              refine wpQuiet_nil ?_
              rintro W3 ⟨⟨_, hb3⟩, rfl⟩
              rw [HBA.out]
              go_wp2
              go_roundg (n - (k + 1))
              case measure => rw [HG.out]; omega
              case rel => exact ⟨k + 1, xs, rfl, by omega, by omega, by go_num, HP.out, ownsRow_below' hown hb3, hB.trans (hb3.mono (by have := hB.size; omega))⟩
      · go_wp2
        go_end0
        exact ⟨rfl, ⟨xs, hp, hown⟩, hB⟩
end Go.Proofs.YtifddfchpknkbaaGreatDoor
