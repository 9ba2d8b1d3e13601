import Derived.Test.YtifddfchpknkbaaGreatDoorFe
import Derived.Test.YtifddfchpknkbaaGreatDoorBC
set_option linter.unusedVariables false
set_option linter.unusedSimpArgs false
namespace Go.Proofs.YtifddfchpknkbaaGreatDoor
open Go.RowKit

/-- The first way that tells, by rising number of cells. -/
def fewS (ds cells : List Nat) (m : Nat) : Option (List Nat) := (List.range m).findSome? fun left => fewR ds cells left 0 0
theorem fewS_succ (ds cells : List Nat) (q : Nat) (h : fewS ds cells q = none) : fewS ds cells (q + 1) = fewR ds cells q 0 0 := by
  unfold fewS at *
  rw [List.range_succ, List.findSome?_append, h]; simp
theorem fewS_stop (ds cells : List Nat) (r : List Nat) : ∀ (q m : Nat), q ≤ m → fewS ds cells q = some r → fewS ds cells m = some r := by
  intro q m hqm h
  induction m with
  | zero => obtain rfl : q = 0 := by omega
            exact h
  | succ m ih =>
    rcases Nat.lt_or_ge m q with h1 | h1
    · obtain rfl : q = m + 1 := by omega
      exact h
    · have h2 := ih h1
      unfold fewS at h2 ⊢
      rw [List.range_succ, List.findSome?_append, h2]; rfl
def fewL (ds cells : List Nat) : List Nat := (fewS ds cells (cells.length + 1)).getD []

set_option maxRecDepth 100000 in
set_option maxHeartbeats 3200000 in
theorem fewest_any (DA : Option Addr) (dn dcap : Nat) (CA : Option Addr) (cn ccap : Nat) (ds cells : List Nat) (w : World) (hdn : dn ≤ 100000) (hcn : cn ≤ 8) (hds : ∀ d ∈ ds, d < 18446744073709551616)
    (hdr : Rd w w.heap.size 1 DA dn (ds.map u64V)) (hcr : Rd w w.heap.size 1 CA cn (cells.map natV)) :
    Calls Tryz.prog 136 #[.slice DA dn dcap, .slice CA cn ccap] w fun e w' => ∃ v, e = .returned v ∧ w'.ownsRow w.heap.size 3 1 v (fewL ds cells).length ((fewL ds cells).map natV) ∧ Below w.heap.size w w' := by
  have hlen := hcr.len
  have HLEN := Lib.hid hlen; clear hlen
  go_enter Tryz.func136, Tryz.ntmps136
  go_wp2
  go_loopg [12] (cn + 1) (fun g i wr => ∃ (q : Nat), g = cn + 1 - q ∧ q ≤ cn + 1 ∧ i = .int .i64 q ∧ fewS ds cells q = none ∧ FS w w.heap.size (w.heap.size + 1) (w.heap.size + 1 + 1) (w.heap.size + 1 + 1 + 1) DA dn dcap CA cn ccap [] wr)
  case atStart =>
    refine ⟨0, rfl, Nat.zero_le _, rfl, rfl, .slice none 0 0, ?_, World.ownsRow_nil _ _ _ _, ?_, ?_, ?_, ?_⟩
    · exact Blk.alloc (by have h := Blk.new ((w.alloc (.cells #[.slice DA dn dcap] 175)).alloc (.cells #[.slice CA cn ccap] 87)) 87 #[.slice none 0 0]; simpa [World.size_alloc] using h) _
    · exact (((Blk.new w 175 #[.slice DA dn dcap]).alloc _).alloc _).alloc _
    · exact Blk.alloc (Blk.alloc (by have h := Blk.new (w.alloc (.cells #[.slice DA dn dcap] 175)) 87 #[.slice CA cn ccap]; simpa [World.size_alloc] using h) _) _
    · have h := Blk.new (((w.alloc (.cells #[.slice DA dn dcap] 175)).alloc (.cells #[.slice CA cn ccap] 87)).alloc (.cells #[.slice none 0 0] 87)) 215 #[.func (.func 170) #[] #[.pointer (some ⟨w.heap.size, 0, none⟩), .pointer (some ⟨w.heap.size + 1, 0, none⟩), .pointer (some ⟨w.heap.size + 1 + 1, 0, none⟩), .pointer (some ⟨w.heap.size + 1 + 1 + 1, 0, none⟩)]]
      simpa [World.size_alloc] using h
    · refine ((((Below.refl w.heap.size w).alloc (Nat.le_refl _) _).alloc ?_ _).alloc ?_ _).alloc ?_ _ <;> simp only [World.size_alloc] <;> omega
  case round =>
    obtain ⟨q, hg, hq, rfl, hno, hFS⟩ := hrel
    have HG := Lib.hid hg; clear hg
    by_cases hlt : q < cn + 1
    · have hsu := fewS_succ ds cells q hno
      have HSU := Lib.hid hsu; clear hsu hno
      obtain ⟨v0, hbC, hown, hbD, hbL, hbF, hB⟩ := hFS
      have hcF := fun i => hbF.cell i
      have hlF := hbF.lt
      have hqq : (q : Int) < (cn : Int) + 1 := by omega
      have ihq := search_any w w.heap.size (w.heap.size + 1) (w.heap.size + 1 + 1) (w.heap.size + 1 + 1 + 1) DA dn dcap CA cn ccap ds cells hdn hcn hds hdr hcr (by omega) (by omega) q 0 0 [] wr (by omega) (by omega) (by omega) (by simp only [List.length_nil]; omega) ⟨v0, hbC, hown, hbD, hbL, hbF, hB⟩
      clear hbC hown hbD hbL hB
      cases hq2 : fewR ds cells q 0 0 with
      | none =>
        rw [hq2] at ihq
        have HQ2 := Lib.hid hq2; clear hq2
        go_wp2_with (go_at_call 170; refine ihq.mono ?_; rintro e w4 ⟨rfl, gFS⟩)
        go_roundg (cn + 1 - (q + 1))
        case measure => rw [HG.out]; omega
        case rel => exact ⟨q + 1, rfl, by omega, by go_num, by rw [HSU.out, HQ2.out], gFS⟩
      | some ext =>
        rw [hq2] at ihq
        have HQ2 := Lib.hid hq2; clear hq2
        have hsu2 := HSU.out
        rw [HQ2.out] at hsu2
        have hst := fewS_stop ds cells _ (q + 1) (cells.length + 1) (by have := HLEN.out; omega) hsu2
        have hl : fewL ds cells = ext := by unfold fewL; rw [hst]; rfl
        clear hst hsu2
        have HL := Lib.hid hl; clear hl
        go_wp2_with (go_at_call 170; refine ihq.mono ?_; rintro e w4 ⟨rfl, v4, gC, gown, gD, gL, gF, gB⟩; have hcC := fun i => gC.cell i; have hlC := gC.lt)
        go_ret
        rw [HL.out]
        exact ⟨_, rfl, gown, gB⟩
    · have hqe : q = cn + 1 := by omega
      have hl : fewL ds cells = [] := by
        unfold fewL; rw [HLEN.out, ← hqe, hno]; rfl
      clear hno
      have HL := Lib.hid hl; clear hl
      obtain ⟨v0, hbC, hown, hbD, hbL, hbF, hB⟩ := hFS
      have hcC := fun i => hbC.cell i
      have hlC := hbC.lt
      have hqq : ¬ (q : Int) < (cn : Int) + 1 := by omega
      go_wp2
      go_ret
      rw [HL.out]
      exact ⟨_, rfl, hown, hB⟩
end Go.Proofs.YtifddfchpknkbaaGreatDoor

namespace Go.Proofs.YtifddfchpknkbaaGreatDoor
open Go.RowKit Go.Maps

theorem tellB_congr {a b : List Nat} (h : ∀ d, d ∈ a ↔ d ∈ b) (set : Nat) : tellB a set = tellB b set := by
  unfold tellB
  rw [Bool.eq_iff_iff, List.all_eq_true, List.all_eq_true]
  exact ⟨fun g d hd => g d ((h d).2 hd), fun g d hd => g d ((h d).1 hd)⟩
theorem fewR_congr {a b : List Nat} (h : ∀ d, d ∈ a ↔ d ∈ b) (cells : List Nat) : ∀ left lo set, fewR a cells left lo set = fewR b cells left lo set
  | 0, lo, set => by unfold fewR; rw [tellB_congr h]
  | left + 1, lo, set => by
    unfold fewR
    congr 1
    funext n
    rw [fewR_congr h cells left]
theorem fewL_congr {a b : List Nat} (h : ∀ d, d ∈ a ↔ d ∈ b) (cells : List Nat) : fewL a cells = fewL b cells := by
  unfold fewL fewS
  simp only [fewR_congr h]
theorem own_le0 {w : World} {base n cap N : Nat} {e : TypeId} {A : Option Addr} {xs : List Value} (h : w.ownsRow base e N (.slice A n cap) n xs) : n ≤ cap := by
  rcases h.2 with ⟨h1, _⟩ | ⟨g, c, cur, h1, h2⟩
  · cases h1; omega
  · cases h1; exact h2.2.2.1
theorem own_cap {w : World} {base n cap N : Nat} {e : TypeId} {A : Option Addr} {xs : List Value} (h : w.ownsRow base e N (.slice A n cap) n xs) : cap ≤ maxLen := by
  rcases h.2 with ⟨h1, _⟩ | ⟨g, c, cur, h1, h2⟩
  · cases h1; unfold maxLen; omega
  · cases h1; exact h2.2.2.2.1

/-- Whether a plan is asked as defined; the differences in cells. -/
def goodP (W H F L X Y nl nh xl xh y : Int) (fs : List Fig) (cs : List Int) : Bool := askB W H F L X Y nl nh xl xh y fs && cellsB W H cs
def difP (W H F L X Y nl nh xl xh y : Int) (fs : List Fig) (cs : List Int) : List Nat := diffAll (cs.map Int.toNat) cs.length (shL W H F L X Y nl nh xl xh y fs)
def planE (W H F L X Y nl nh xl xh y : Int) (fs : List Fig) (cs : List Int) : Int := if goodP W H F L X Y nl nh xl xh y fs cs then (if tellB (difP W H F L X Y nl nh xl xh y fs cs) 18446744073709551615 then 0 else 5) else 2
def planL (W H F L X Y nl nh xl xh y : Int) (fs : List Fig) (cs : List Int) : List Nat := if goodP W H F L X Y nl nh xl xh y fs cs then (if tellB (difP W H F L X Y nl nh xl xh y fs cs) 18446744073709551615 then fewL (difP W H F L X Y nl nh xl xh y fs cs) (cs.map Int.toNat) else []) else []
def enoughB (W H F L X Y nl nh xl xh y : Int) (fs : List Fig) (cs : List Int) : Bool := goodP W H F L X Y nl nh xl xh y fs cs && tellB (difP W H F L X Y nl nh xl xh y fs cs) 18446744073709551615
def enoughE (W H F L X Y nl nh xl xh y : Int) (fs : List Fig) (cs : List Int) : Int := if goodP W H F L X Y nl nh xl xh y fs cs then 0 else 2

theorem cellsF_mem : ∀ (last m : Int) (l : List Int), -1 ≤ last → cellsF last m l = true → ∀ c ∈ l, 0 ≤ c ∧ c < m
  | _, _, [], _, _ => by simp
  | last, m, c :: l, hl, h => by
    simp only [cellsF, Bool.and_eq_true, inB, decide_eq_true_eq] at h
    obtain ⟨h1, h2⟩ := h
    have ih := cellsF_mem c m l (by omega) h2
    intro d hd
    rcases List.mem_cons.1 hd with rfl | hd
    · omega
    · exact ih d hd

set_option maxRecDepth 100000 in
set_option maxHeartbeats 1600000 in
theorem Enough_any (W H F L X Y nl nh xl xh y : Int) (A : Option Addr) (n cap : Nat) (fs : List Fig) (CA : Option Addr) (cn ccap : Nat) (cs : List Int) (w : World) (hn : n ≤ cap) (hcm : cap ≤ maxLen) (hf : ∀ f ∈ fs, f.ok w w.heap.size) (hr : Rd w w.heap.size 1 A n (fs.map Fig.val)) (hcn : cn ≤ maxLen) (hcr : Rd w w.heap.size 1 CA cn (cs.map (Value.int .i64))) (hsm : goodP W H F L X Y nl nh xl xh y fs cs = true → (difP W H F L X Y nl nh xl xh y fs cs).length ≤ 12) :
    Calls Tryz.prog 74 #[.agg #[.int .i64 W, .int .i64 H, .int .i64 F, .int .i64 L, .int .i64 X, .int .i64 Y], .slice A n cap, .agg #[.int .i64 nl, .int .i64 nh, .int .i64 xl, .int .i64 xh, .int .i64 y], .slice CA cn ccap] w fun e w' => e = .returned (.tuple #[.bool (enoughB W H F L X Y nl nh xl xh y fs cs), .int .i64 (enoughE W H F L X Y nl nh xl xh y fs cs)]) ∧ Below w.heap.size w w' := by
  have hA : Blk ((w.alloc (.cells #[.int .i64 W, .int .i64 H, .int .i64 F, .int .i64 L, .int .i64 X, .int .i64 Y] 23)).alloc (.cells #[.int .i64 nl, .int .i64 nh, .int .i64 xl, .int .i64 xh, .int .i64 y] 71)) w.heap.size 23 #[.int .i64 W, .int .i64 H, .int .i64 F, .int .i64 L, .int .i64 X, .int .i64 Y] := (Blk.new w 23 #[.int .i64 W, .int .i64 H, .int .i64 F, .int .i64 L, .int .i64 X, .int .i64 Y]).alloc _
  have hBk : Blk ((w.alloc (.cells #[.int .i64 W, .int .i64 H, .int .i64 F, .int .i64 L, .int .i64 X, .int .i64 Y] 23)).alloc (.cells #[.int .i64 nl, .int .i64 nh, .int .i64 xl, .int .i64 xh, .int .i64 y] 71)) (w.heap.size + 1) 71 #[.int .i64 nl, .int .i64 nh, .int .i64 xl, .int .i64 xh, .int .i64 y] := blk2 w _ 71 #[.int .i64 nl, .int .i64 nh, .int .i64 xl, .int .i64 xh, .int .i64 y]
  have hB2 : Below w.heap.size w ((w.alloc (.cells #[.int .i64 W, .int .i64 H, .int .i64 F, .int .i64 L, .int .i64 X, .int .i64 Y] 23)).alloc (.cells #[.int .i64 nl, .int .i64 nh, .int .i64 xl, .int .i64 xh, .int .i64 y] 71)) := ((Below.refl _ w).alloc (Nat.le_refl _) _).alloc (by simp only [World.size_alloc]; omega) _
  have hqA := fun i => hA.cell i; have hqB := fun i => hBk.cell i; have hlA := hA.lt; have hlB := hBk.lt
  cases hask : (stageB W H F L X Y && (compB fs && reachB F nl nh xl xh y))
  · have hg : goodP W H F L X Y nl nh xl xh y fs cs = false := by simp [goodP, askB, hask]
    go_enter Tryz.func74, Tryz.ntmps74
    go_wp2_with (first | (go_at_call 112; refine (goodReach_any W H F L X Y nl nh xl xh y A n cap fs _ (Nat.le_trans hn hcm) (fun f hf' => ((hf f hf').below hB2).more hB2.size) ((hr.below hB2).more hB2.size)).mono ?_; rintro e w1 ⟨rfl, hb⟩; rw [hask]; replace hA := hA.below hb hA.lt; replace hBk := hBk.below hb hBk.lt; replace hB2 := hB2.trans (hb.mono hB2.size); replace hqA := fun i => hA.cell i; replace hqB := fun i => hBk.cell i; replace hlA := hA.lt; replace hlB := hBk.lt; clear hb))
    go_ret2
    exact ⟨by simp [enoughB, enoughE, hg], hB2⟩
  · have hask2 : askB W H F L X Y nl nh xl xh y fs = true := hask
    have hdm := ask_dims hask2
    cases hcel : cellsB W H cs
    · have hg : goodP W H F L X Y nl nh xl xh y fs cs = false := by simp [goodP, hcel]
      go_enter Tryz.func74, Tryz.ntmps74
      go_wp2_with (first | (go_at_call 112; refine (goodReach_any W H F L X Y nl nh xl xh y A n cap fs _ (Nat.le_trans hn hcm) (fun f hf' => ((hf f hf').below hB2).more hB2.size) ((hr.below hB2).more hB2.size)).mono ?_; rintro e w1 ⟨rfl, hb⟩; rw [hask]; replace hA := hA.below hb hA.lt; replace hBk := hBk.below hb hBk.lt; replace hB2 := hB2.trans (hb.mono hB2.size); replace hqA := fun i => hA.cell i; replace hqB := fun i => hBk.cell i; replace hlA := hA.lt; replace hlB := hBk.lt; clear hb) | (go_at_call 133; refine (goodCells_any W H F L X Y CA cn ccap cs _ hcn ((hcr.below hB2).more hB2.size) (by omega) (by omega) (by omega) (by omega)).mono ?_; rintro e w1 ⟨rfl, hb⟩; rw [hcel]; replace hA := hA.below hb hA.lt; replace hBk := hBk.below hb hBk.lt; replace hB2 := hB2.trans (hb.mono hB2.size); replace hqA := fun i => hA.cell i; replace hqB := fun i => hBk.cell i; replace hlA := hA.lt; replace hlB := hBk.lt; clear hb))
      go_ret2
      exact ⟨by simp [enoughB, enoughE, hg], hB2⟩
    · have hg : goodP W H F L X Y nl nh xl xh y fs cs = true := by simp [goodP, hask2, hcel]
      have hsm' := hsm hg
      have hcl := hcr.len
      have hcel2 := hcel
      simp only [cellsB, Bool.and_eq_true, decide_eq_true_eq] at hcel2
      have hc8 : cn ≤ 8 := by omega
      have hcm := cellsF_mem (-1) (W * H) cs (by omega) hcel2.2
      have hWH : W * H = ((W.toNat * H.toNat : Nat) : Int) := by rw [Int.natCast_mul, Int.toNat_of_nonneg (by omega), Int.toNat_of_nonneg (by omega)]
      have hcs : ∀ c ∈ cs.map Int.toNat, c < W.toNat * H.toNat := by
        intro c hc
        obtain ⟨d, hd, rfl⟩ := List.mem_map.1 hc
        have := hcm d hd
        rw [hWH] at this
        omega
      have hcsv : cs.map (Value.int .i64) = (cs.map Int.toNat).map natV := by
        rw [List.map_map]
        refine List.map_congr_left fun c hc => ?_
        have := hcm c hc
        simp only [Function.comp, natV]
        rw [Int.toNat_of_nonneg this.1]
      have hslen : (shL W H F L X Y nl nh xl xh y fs).length ≤ 216 := by rw [shL, List.length_map]; exact allR_small hask2
      have hshs : ∀ h ∈ shL W H F L X Y nl nh xl xh y fs, h.s.size = W.toNat * H.toNat := fun h hh => shL_size hh
      have hdb : ∀ d ∈ difP W H F L X Y nl nh xl xh y fs cs, d < 18446744073709551616 := fun d hd => by
        have h1 := mem_diffAll _ _ _ _ hd
        have h2 : (2 : Nat) ^ cs.length ≤ 2 ^ 8 := Nat.pow_le_pow_right (by omega) hcel2.1
        have h3 : (2 : Nat) ^ 8 = 256 := rfl
        omega
      have hlcs : cs.length = cn := by simpa using hcl
      unfold difP at hsm' hdb
      rw [hlcs] at hsm' hdb
      clear hcm hcel2
      cases htel : tellB (diffAll (cs.map Int.toNat) cn (shL W H F L X Y nl nh xl xh y fs)) 18446744073709551615
      all_goals
        go_enter Tryz.func74, Tryz.ntmps74
        go_wp2_with (first | (go_at_call 112; refine (goodReach_any W H F L X Y nl nh xl xh y A n cap fs _ (Nat.le_trans hn hcm) (fun f hf' => ((hf f hf').below hB2).more hB2.size) ((hr.below hB2).more hB2.size)).mono ?_; rintro e w1 ⟨rfl, hb⟩; rw [hask]; replace hA := hA.below hb hA.lt; replace hBk := hBk.below hb hBk.lt; replace hB2 := hB2.trans (hb.mono hB2.size); replace hqA := fun i => hA.cell i; replace hqB := fun i => hBk.cell i; replace hlA := hA.lt; replace hlB := hBk.lt; clear hb) | (go_at_call 133; refine (goodCells_any W H F L X Y CA cn ccap cs _ hcn ((hcr.below hB2).more hB2.size) (by omega) (by omega) (by omega) (by omega)).mono ?_; rintro e w1 ⟨rfl, hb⟩; rw [hcel]; replace hA := hA.below hb hA.lt; replace hBk := hBk.below hb hBk.lt; replace hB2 := hB2.trans (hb.mono hB2.size); replace hqA := fun i => hA.cell i; replace hqB := fun i => hBk.cell i; replace hlA := hA.lt; replace hlB := hBk.lt; clear hb) | (go_at_call 115; refine (shades_any W H F L X Y nl nh xl xh y A n cap fs _ hn hcm (fun f hf' => ((hf f hf').below hB2).more hB2.size) ((hr.below hB2).more hB2.size) hask2).mono ?_; rintro e w1 ⟨v1, rfl, own1, hb⟩; obtain ⟨A1, c1, rfl⟩ := own_slice own1; have hcap1 := own_le0 own1; have hr1 := Rd.of_own own1; clear own1; replace hA := hA.below hb hA.lt; replace hBk := hBk.below hb hBk.lt; replace hB2 := hB2.trans (hb.mono hB2.size); replace hqA := fun i => hA.cell i; replace hqB := fun i => hBk.cell i; replace hlA := hA.lt; replace hlB := hBk.lt; clear hb) | (go_at_call 135; refine (differences_small A1 _ c1 _ CA cn ccap (W.toNat * H.toNat) (cs.map Int.toNat) _ (by omega) hcap1 hc8 hsm' hshs (by omega) hcs hr1 (by rw [← hcsv]; exact (hcr.below hB2).more hB2.size)).mono ?_; rintro e w1 ⟨v2, m2, ds2, rfl, own2, hm2, hmem, hb⟩; obtain ⟨A2, c2, rfl⟩ := own_slice own2; have hr2 := Rd.of_own own2; clear own2 hr1; have hd2 : ∀ d ∈ ds2, d < 18446744073709551616 := (fun d hd => hdb d ((hmem d).1 hd)); replace hA := hA.below hb hA.lt; replace hBk := hBk.below hb hBk.lt; replace hB2 := hB2.trans (hb.mono hB2.size); replace hqA := fun i => hA.cell i; replace hqB := fun i => hBk.cell i; replace hlA := hA.lt; replace hlB := hBk.lt; clear hb) | (go_at_call 134; refine (tell_any A2 m2 c2 ds2 18446744073709551615 _ (by omega) hd2 (by omega) hr2).mono ?_; rintro e w1 ⟨rfl, rfl⟩; rw [tellB_congr hmem, htel]))
        go_ret2
        exact ⟨by simp [enoughB, enoughE, hg, difP, hlcs, htel], hB2⟩

set_option maxRecDepth 100000 in
set_option maxHeartbeats 1600000 in
theorem Plan_any (W H F L X Y nl nh xl xh y : Int) (A : Option Addr) (n cap : Nat) (fs : List Fig) (CA : Option Addr) (cn ccap : Nat) (cs : List Int) (w : World) (hn : n ≤ cap) (hcm : cap ≤ maxLen) (hf : ∀ f ∈ fs, f.ok w w.heap.size) (hr : Rd w w.heap.size 1 A n (fs.map Fig.val)) (hcn : cn ≤ maxLen) (hcr : Rd w w.heap.size 1 CA cn (cs.map (Value.int .i64))) (hsm : goodP W H F L X Y nl nh xl xh y fs cs = true → (difP W H F L X Y nl nh xl xh y fs cs).length ≤ 12) :
    Calls Tryz.prog 75 #[.agg #[.int .i64 W, .int .i64 H, .int .i64 F, .int .i64 L, .int .i64 X, .int .i64 Y], .slice A n cap, .agg #[.int .i64 nl, .int .i64 nh, .int .i64 xl, .int .i64 xh, .int .i64 y], .slice CA cn ccap] w fun e w' => ∃ v, e = .returned (.tuple #[v, .int .i64 (planE W H F L X Y nl nh xl xh y fs cs)]) ∧ IsL w' v ((planL W H F L X Y nl nh xl xh y fs cs).map natV) ∧ Below w.heap.size w w' := by
  have hA : Blk ((w.alloc (.cells #[.int .i64 W, .int .i64 H, .int .i64 F, .int .i64 L, .int .i64 X, .int .i64 Y] 23)).alloc (.cells #[.int .i64 nl, .int .i64 nh, .int .i64 xl, .int .i64 xh, .int .i64 y] 71)) w.heap.size 23 #[.int .i64 W, .int .i64 H, .int .i64 F, .int .i64 L, .int .i64 X, .int .i64 Y] := (Blk.new w 23 #[.int .i64 W, .int .i64 H, .int .i64 F, .int .i64 L, .int .i64 X, .int .i64 Y]).alloc _
  have hBk : Blk ((w.alloc (.cells #[.int .i64 W, .int .i64 H, .int .i64 F, .int .i64 L, .int .i64 X, .int .i64 Y] 23)).alloc (.cells #[.int .i64 nl, .int .i64 nh, .int .i64 xl, .int .i64 xh, .int .i64 y] 71)) (w.heap.size + 1) 71 #[.int .i64 nl, .int .i64 nh, .int .i64 xl, .int .i64 xh, .int .i64 y] := blk2 w _ 71 #[.int .i64 nl, .int .i64 nh, .int .i64 xl, .int .i64 xh, .int .i64 y]
  have hB2 : Below w.heap.size w ((w.alloc (.cells #[.int .i64 W, .int .i64 H, .int .i64 F, .int .i64 L, .int .i64 X, .int .i64 Y] 23)).alloc (.cells #[.int .i64 nl, .int .i64 nh, .int .i64 xl, .int .i64 xh, .int .i64 y] 71)) := ((Below.refl _ w).alloc (Nat.le_refl _) _).alloc (by simp only [World.size_alloc]; omega) _
  have hqA := fun i => hA.cell i; have hqB := fun i => hBk.cell i; have hlA := hA.lt; have hlB := hBk.lt
  cases hask : (stageB W H F L X Y && (compB fs && reachB F nl nh xl xh y))
  · have hg : goodP W H F L X Y nl nh xl xh y fs cs = false := by simp [goodP, askB, hask]
    go_enter Tryz.func75, Tryz.ntmps75
    go_wp2_with (first | (go_at_call 112; refine (goodReach_any W H F L X Y nl nh xl xh y A n cap fs _ (Nat.le_trans hn hcm) (fun f hf' => ((hf f hf').below hB2).more hB2.size) ((hr.below hB2).more hB2.size)).mono ?_; rintro e w1 ⟨rfl, hb⟩; rw [hask]; replace hA := hA.below hb hA.lt; replace hBk := hBk.below hb hBk.lt; replace hB2 := hB2.trans (hb.mono hB2.size); replace hqA := fun i => hA.cell i; replace hqB := fun i => hBk.cell i; replace hlA := hA.lt; replace hlB := hBk.lt; clear hb))
    go_ret2
    exact ⟨_, by simp [planE, hg]; rfl, by simp [planL, hg]; exact IsL.nil _, hB2⟩
  · have hask2 : askB W H F L X Y nl nh xl xh y fs = true := hask
    have hdm := ask_dims hask2
    cases hcel : cellsB W H cs
    · have hg : goodP W H F L X Y nl nh xl xh y fs cs = false := by simp [goodP, hcel]
      go_enter Tryz.func75, Tryz.ntmps75
      go_wp2_with (first | (go_at_call 112; refine (goodReach_any W H F L X Y nl nh xl xh y A n cap fs _ (Nat.le_trans hn hcm) (fun f hf' => ((hf f hf').below hB2).more hB2.size) ((hr.below hB2).more hB2.size)).mono ?_; rintro e w1 ⟨rfl, hb⟩; rw [hask]; replace hA := hA.below hb hA.lt; replace hBk := hBk.below hb hBk.lt; replace hB2 := hB2.trans (hb.mono hB2.size); replace hqA := fun i => hA.cell i; replace hqB := fun i => hBk.cell i; replace hlA := hA.lt; replace hlB := hBk.lt; clear hb) | (go_at_call 133; refine (goodCells_any W H F L X Y CA cn ccap cs _ hcn ((hcr.below hB2).more hB2.size) (by omega) (by omega) (by omega) (by omega)).mono ?_; rintro e w1 ⟨rfl, hb⟩; rw [hcel]; replace hA := hA.below hb hA.lt; replace hBk := hBk.below hb hBk.lt; replace hB2 := hB2.trans (hb.mono hB2.size); replace hqA := fun i => hA.cell i; replace hqB := fun i => hBk.cell i; replace hlA := hA.lt; replace hlB := hBk.lt; clear hb))
      go_ret2
      exact ⟨_, by simp [planE, hg]; rfl, by simp [planL, hg]; exact IsL.nil _, hB2⟩
    · have hg : goodP W H F L X Y nl nh xl xh y fs cs = true := by simp [goodP, hask2, hcel]
      have hsm' := hsm hg
      have hcl := hcr.len
      have hcel2 := hcel
      simp only [cellsB, Bool.and_eq_true, decide_eq_true_eq] at hcel2
      have hc8 : cn ≤ 8 := by omega
      have hcm := cellsF_mem (-1) (W * H) cs (by omega) hcel2.2
      have hWH : W * H = ((W.toNat * H.toNat : Nat) : Int) := by rw [Int.natCast_mul, Int.toNat_of_nonneg (by omega), Int.toNat_of_nonneg (by omega)]
      have hcs : ∀ c ∈ cs.map Int.toNat, c < W.toNat * H.toNat := by
        intro c hc
        obtain ⟨d, hd, rfl⟩ := List.mem_map.1 hc
        have := hcm d hd
        rw [hWH] at this
        omega
      have hcsv : cs.map (Value.int .i64) = (cs.map Int.toNat).map natV := by
        rw [List.map_map]
        refine List.map_congr_left fun c hc => ?_
        have := hcm c hc
        simp only [Function.comp, natV]
        rw [Int.toNat_of_nonneg this.1]
      have hslen : (shL W H F L X Y nl nh xl xh y fs).length ≤ 216 := by rw [shL, List.length_map]; exact allR_small hask2
      have hshs : ∀ h ∈ shL W H F L X Y nl nh xl xh y fs, h.s.size = W.toNat * H.toNat := fun h hh => shL_size hh
      have hdb : ∀ d ∈ difP W H F L X Y nl nh xl xh y fs cs, d < 18446744073709551616 := fun d hd => by
        have h1 := mem_diffAll _ _ _ _ hd
        have h2 : (2 : Nat) ^ cs.length ≤ 2 ^ 8 := Nat.pow_le_pow_right (by omega) hcel2.1
        have h3 : (2 : Nat) ^ 8 = 256 := rfl
        omega
      have hlcs : cs.length = cn := by simpa using hcl
      unfold difP at hsm' hdb
      rw [hlcs] at hsm' hdb
      clear hcm hcel2
      cases htel : tellB (diffAll (cs.map Int.toNat) cn (shL W H F L X Y nl nh xl xh y fs)) 18446744073709551615
      · go_enter Tryz.func75, Tryz.ntmps75
        go_wp2_with (first | (go_at_call 112; refine (goodReach_any W H F L X Y nl nh xl xh y A n cap fs _ (Nat.le_trans hn hcm) (fun f hf' => ((hf f hf').below hB2).more hB2.size) ((hr.below hB2).more hB2.size)).mono ?_; rintro e w1 ⟨rfl, hb⟩; rw [hask]; replace hA := hA.below hb hA.lt; replace hBk := hBk.below hb hBk.lt; replace hB2 := hB2.trans (hb.mono hB2.size); replace hqA := fun i => hA.cell i; replace hqB := fun i => hBk.cell i; replace hlA := hA.lt; replace hlB := hBk.lt; clear hb) | (go_at_call 133; refine (goodCells_any W H F L X Y CA cn ccap cs _ hcn ((hcr.below hB2).more hB2.size) (by omega) (by omega) (by omega) (by omega)).mono ?_; rintro e w1 ⟨rfl, hb⟩; rw [hcel]; replace hA := hA.below hb hA.lt; replace hBk := hBk.below hb hBk.lt; replace hB2 := hB2.trans (hb.mono hB2.size); replace hqA := fun i => hA.cell i; replace hqB := fun i => hBk.cell i; replace hlA := hA.lt; replace hlB := hBk.lt; clear hb) | (go_at_call 115; refine (shades_any W H F L X Y nl nh xl xh y A n cap fs _ hn hcm (fun f hf' => ((hf f hf').below hB2).more hB2.size) ((hr.below hB2).more hB2.size) hask2).mono ?_; rintro e w1 ⟨v1, rfl, own1, hb⟩; obtain ⟨A1, c1, rfl⟩ := own_slice own1; have hcap1 := own_le0 own1; have hr1 := Rd.of_own own1; clear own1; replace hA := hA.below hb hA.lt; replace hBk := hBk.below hb hBk.lt; replace hB2 := hB2.trans (hb.mono hB2.size); replace hqA := fun i => hA.cell i; replace hqB := fun i => hBk.cell i; replace hlA := hA.lt; replace hlB := hBk.lt; clear hb) | (go_at_call 135; refine (differences_small A1 _ c1 _ CA cn ccap (W.toNat * H.toNat) (cs.map Int.toNat) _ (by omega) hcap1 hc8 hsm' hshs (by omega) hcs hr1 (by rw [← hcsv]; exact (hcr.below hB2).more hB2.size)).mono ?_; rintro e w1 ⟨v2, m2, ds2, rfl, own2, hm2, hmem, hb⟩; obtain ⟨A2, c2, rfl⟩ := own_slice own2; have hr2 := Rd.of_own own2; clear own2 hr1; have hd2 : ∀ d ∈ ds2, d < 18446744073709551616 := (fun d hd => hdb d ((hmem d).1 hd)); replace hA := hA.below hb hA.lt; replace hBk := hBk.below hb hBk.lt; replace hB2 := hB2.trans (hb.mono hB2.size); replace hqA := fun i => hA.cell i; replace hqB := fun i => hBk.cell i; replace hlA := hA.lt; replace hlB := hBk.lt; clear hb) | (go_at_call 134; refine (tell_any A2 m2 c2 ds2 18446744073709551615 _ (by omega) hd2 (by omega) hr2).mono ?_; rintro e w1 ⟨rfl, rfl⟩; rw [tellB_congr hmem, htel]))
        go_ret2
        exact ⟨_, by simp [planE, hg, difP, hlcs, htel]; rfl, by simp [planL, hg, difP, hlcs, htel]; exact IsL.nil _, hB2⟩
      · go_enter Tryz.func75, Tryz.ntmps75
        go_wp2_with (first | (go_at_call 112; refine (goodReach_any W H F L X Y nl nh xl xh y A n cap fs _ (Nat.le_trans hn hcm) (fun f hf' => ((hf f hf').below hB2).more hB2.size) ((hr.below hB2).more hB2.size)).mono ?_; rintro e w1 ⟨rfl, hb⟩; rw [hask]; replace hA := hA.below hb hA.lt; replace hBk := hBk.below hb hBk.lt; replace hB2 := hB2.trans (hb.mono hB2.size); replace hqA := fun i => hA.cell i; replace hqB := fun i => hBk.cell i; replace hlA := hA.lt; replace hlB := hBk.lt; clear hb) | (go_at_call 133; refine (goodCells_any W H F L X Y CA cn ccap cs _ hcn ((hcr.below hB2).more hB2.size) (by omega) (by omega) (by omega) (by omega)).mono ?_; rintro e w1 ⟨rfl, hb⟩; rw [hcel]; replace hA := hA.below hb hA.lt; replace hBk := hBk.below hb hBk.lt; replace hB2 := hB2.trans (hb.mono hB2.size); replace hqA := fun i => hA.cell i; replace hqB := fun i => hBk.cell i; replace hlA := hA.lt; replace hlB := hBk.lt; clear hb) | (go_at_call 115; refine (shades_any W H F L X Y nl nh xl xh y A n cap fs _ hn hcm (fun f hf' => ((hf f hf').below hB2).more hB2.size) ((hr.below hB2).more hB2.size) hask2).mono ?_; rintro e w1 ⟨v1, rfl, own1, hb⟩; obtain ⟨A1, c1, rfl⟩ := own_slice own1; have hcap1 := own_le0 own1; have hr1 := Rd.of_own own1; clear own1; replace hA := hA.below hb hA.lt; replace hBk := hBk.below hb hBk.lt; replace hB2 := hB2.trans (hb.mono hB2.size); replace hqA := fun i => hA.cell i; replace hqB := fun i => hBk.cell i; replace hlA := hA.lt; replace hlB := hBk.lt; clear hb) | (go_at_call 135; refine (differences_small A1 _ c1 _ CA cn ccap (W.toNat * H.toNat) (cs.map Int.toNat) _ (by omega) hcap1 hc8 hsm' hshs (by omega) hcs hr1 (by rw [← hcsv]; exact (hcr.below hB2).more hB2.size)).mono ?_; rintro e w1 ⟨v2, m2, ds2, rfl, own2, hm2, hmem, hb⟩; obtain ⟨A2, c2, rfl⟩ := own_slice own2; have hr2 := Rd.of_own own2; clear own2 hr1; have hd2 : ∀ d ∈ ds2, d < 18446744073709551616 := (fun d hd => hdb d ((hmem d).1 hd)); replace hA := hA.below hb hA.lt; replace hBk := hBk.below hb hBk.lt; replace hB2 := hB2.trans (hb.mono hB2.size); replace hqA := fun i => hA.cell i; replace hqB := fun i => hBk.cell i; replace hlA := hA.lt; replace hlB := hBk.lt; clear hb) | (go_at_call 134; refine (tell_any A2 m2 c2 ds2 18446744073709551615 _ (by omega) hd2 (by omega) hr2).mono ?_; rintro e w1 ⟨rfl, rfl⟩; rw [tellB_congr hmem, htel]) | (go_at_call 136; refine (fewest_any A2 m2 c2 CA cn ccap ds2 (cs.map Int.toNat) _ (by omega) hc8 hd2 hr2 (by rw [← hcsv]; exact (hcr.below hB2).more hB2.size)).mono ?_; rintro e w1 ⟨v3, rfl, own3, hb⟩; rw [fewL_congr hmem] at own3; obtain ⟨A3, c3, rfl⟩ := own_slice own3; replace hA := hA.below hb hA.lt; replace hBk := hBk.below hb hBk.lt; replace hB2 := hB2.trans (hb.mono hB2.size); replace hqA := fun i => hA.cell i; replace hqB := fun i => hBk.cell i; replace hlA := hA.lt; replace hlB := hBk.lt; clear hb))
        go_ret2
        refine ⟨_, by simp [planE, hg, difP, hlcs, htel]; rfl, ?_, hB2⟩
        rw [show planL W H F L X Y nl nh xl xh y fs cs = fewL (diffAll (cs.map Int.toNat) cn (shL W H F L X Y nl nh xl xh y fs)) (cs.map Int.toNat) by simp [planL, hg, difP, hlcs, htel]]
        have hIR := Rd.of_own own3
        exact ⟨A3, _, c3, rfl, own_le0 own3, own_cap own3, by simpa using hIR⟩
end Go.Proofs.YtifddfchpknkbaaGreatDoor
