import Derived.Test.YtifddfchpknkbaaGreatDoorG
import Derived.Test.YtifddfchpknkbaaGreatDoorShelf
import Derived.Laws.RangeAny
import Derived.Laws.Runes
import Derived.LoopTactic
import Derived.WalkMore
set_option linter.unusedVariables false
set_option linter.unusedSimpArgs false
namespace Go.Proofs.YtifddfchpknkbaaGreatDoor
open Go.RowKit

theorem all_drop {α : Type} (p : α → Bool) (l : List α) (k : Nat) (h : k < l.length) : (l.drop k).all p = (p l[k] && (l.drop (k + 1)).all p) := by
  rw [List.drop_eq_getElem_cons h, List.all_cons]
theorem any_take {α : Type} (p : α → Bool) (l : List α) (k : Nat) (h : k < l.length) : (l.take (k + 1)).any p = ((l.take k).any p || p l[k]) := by
  rw [List.take_succ_eq_append_getElem h, List.any_append]; simp

/-- Two shadows have no cell that is dark in one and light in the other one. -/
def agreeB (s t : ByteArray) : Bool := ((ltr s).zip (ltr t)).all fun p => !clB p.1 p.2
theorem zip_at (s t : ByteArray) (k : Nat) (h : k < s.size) (h2 : k < t.size) : ∃ hz : k < ((ltr s).zip (ltr t)).length, ((ltr s).zip (ltr t))[k] = ((s[k].toNat : Int), (t[k].toNat : Int)) := by
  refine ⟨by simp [ltr_len]; omega, ?_⟩
  rw [List.getElem_zip, ltr_at s k h, ltr_at t k h2]

theorem agree_any (s t : ByteArray) (w : World) (hs : s.size ≤ maxLen) (hst : s.size ≤ t.size) :
    Calls Tryz.prog 159 #[.string s, .string t] w fun e w' => e = .returned (.bool (agreeB s t)) ∧ Below w.heap.size w w' := by
  unfold maxLen at hs
  go_enter Tryz.func159, Tryz.ntmps159
  go_wp2
  go_loopg [8] (s.size) (fun g i wr => ∃ k : Nat, g = s.size - k ∧ k ≤ s.size ∧ i = .int .i64 k ∧ (((ltr s).zip (ltr t)).drop k).all (fun p => !clB p.1 p.2) = agreeB s t ∧ Below w.heap.size w wr)
  case atStart => exact ⟨0, rfl, Nat.zero_le _, rfl, rfl, Below.refl _ _⟩
  case round =>
    obtain ⟨k, hg, hk, rfl, ha, hB⟩ := hrel
    have HG := Lib.hid hg; clear hg
    by_cases hlt : k < s.size
    · have hlt2 : k < t.size := by omega
      obtain ⟨hz, hze⟩ := zip_at s t k hlt hlt2
      have hd := all_drop (fun p : Int × Int => !clB p.1 p.2) _ k hz
      rw [ha, hze] at hd
      have HD := Lib.hid hd; clear hd ha hze
      cases hc : clB (s[k].toNat : Int) (t[k].toNat : Int)
      · go_wp2_with (fail)
        refine wp_region_blw (by kernel_rfl) (by kernel_rfl) ?_
        repeat (go_big_quiet_step ((go_at_call 163; exact Calls.blw_of_same _ (hc ▸ clash_any _ _ _))))
        refine wpQuiet_nil ?_
        rintro W3 ⟨⟨_, hb3⟩, rfl⟩
        go_wp2_with (fail)
        go_roundg (s.size - (k + 1))
        case measure => rw [HG.out]; omega
        case rel => exact ⟨k + 1, rfl, by omega, by go_num, by rw [HD.out, hc]; rfl, hB.trans (hb3.mono hB.size)⟩
      · go_wp2_with (fail)
        refine wp_region_blw (by kernel_rfl) (by kernel_rfl) ?_
        repeat (go_big_quiet_step ((go_at_call 163; exact Calls.blw_of_same _ (hc ▸ clash_any _ _ _))))
        refine wpQuiet_nil ?_
        rintro W3 ⟨⟨_, hb3⟩, rfl⟩
        go_wp2_with (fail)
        go_ret
        exact ⟨ret_bool (by rw [HD.out, hc]; rfl), hB.trans (hb3.mono hB.size)⟩
    · have hn : ((ltr s).zip (ltr t)).drop k = [] := List.drop_eq_nil_of_le (by simp [ltr_len]; omega)
      rw [hn] at ha
      have HA := Lib.hid ha; clear ha hn
      go_wp2
      go_ret
      exact ⟨ret_bool (by rw [← HA.out]; rfl), hB⟩
end Go.Proofs.YtifddfchpknkbaaGreatDoor

namespace Go.Proofs.YtifddfchpknkbaaGreatDoor
open Go.RowKit

theorem below_iter (w : World) (s : ByteArray) (p : Nat) : Below w.heap.size w (w.iter s p) := (Below.refl _ w).alloc (Nat.le_refl _) _

set_option maxRecDepth 1000000 in
theorem fffd_any (s : ByteArray) (w : World) (hs : ∀ (j : Nat) (h : j < s.size), (s[j]'h).toNat < 128) (hsz : s.size ≤ 100) :
    Calls Tryz.prog 203 #[.string s, .int .i32 65533] w fun e w' => e = .returned (.int .i64 (-1)) ∧ Below w.heap.size w w' := by
  go_enter Tryz.func203, Tryz.ntmps203
  go_wp2
  go_loopw [] (fun w' => ∃ pos, w' = w.iter s pos ∧ pos ≤ s.size) (fun w' => s.size - w'.iterPos w.heap.size)
  case atStart => exact ⟨0, rfl, Nat.zero_le _⟩
  case round =>
    obtain ⟨pos, rfl, hp⟩ := hrel
    by_cases hlt : pos < s.size
    · have hnx : ∀ ty, (Instr.next (.pointer (some ⟨w.heap.size, 0, none⟩)) true ty).run Tryz.prog (w.iter s pos) = _ := fun ty => run_next_ascii w s pos ty hlt (hs pos hlt)
      have hb := hs pos hlt
      generalize (s[pos]'hlt).toNat = bb at hnx hb
      have hne : ((bb : Int) == 65533) = false := by simp; omega
      go_wp2
      go_roundw
      case rel => exact ⟨pos + 1, rfl, by omega⟩
      case measure => simp; omega
    · have hnx : ∀ ty, (Instr.next (.pointer (some ⟨w.heap.size, 0, none⟩)) true ty).run Tryz.prog (w.iter s pos) = _ := fun ty => run_next_end w s pos ty hlt
      go_wp2
      go_ret
      exact ⟨rfl, below_iter _ _ _⟩
theorem indexByte_high (l : List UInt8) (c : UInt8) (h : ∀ b ∈ l, b.toNat < 128) (hc : 128 ≤ c.toNat) : Lib.indexByte l c = -1 := by
  induction l with
  | nil => rfl
  | cons b l ih =>
    have hb := h b (by simp)
    have hne : (b == c) = false := by
      cases hbc : b == c
      · rfl
      · have := eq_of_beq hbc; subst this; omega
    simp [Lib.indexByte, hne, ih (fun x hx => h x (by simp [hx]))]
set_option maxRecDepth 1000000 in
theorem high_any (s : ByteArray) (r : Int) (w : World) (hs : ∀ (j : Nat) (h : j < s.size), (s[j]'h).toNat < 128) (hsz : s.size ≤ 100) (h1 : 128 ≤ r) (h2 : r ≤ 2147483647) (h3 : (r == 65533) = false) :
    Calls Tryz.prog 203 #[.string s, .int .i32 r] w fun e w' => e = .returned (.int .i64 (-1)) ∧ Below w.heap.size w w' := by
  cases hv : Lib.validRune r
  · go_enter Tryz.func203, Tryz.ntmps203
    go_wp2_with (go_at_call 225; refine (Tryz.utf8_ValidRune _ _).mono ?_; rintro e w' ⟨rfl, hw⟩; rw [hw, hv]; clear hw)
    go_ret
    exact ⟨rfl, Below.refl _ _⟩
  · have hv2 : Utf8.valid r = true := by rw [validRune_eq]; simpa [Lib.validRune, validRune] using hv
    obtain ⟨f1, f2, f3⟩ := encode_facts r hv2 h1
    go_enter Tryz.func203, Tryz.ntmps203
    go_wp2_with (go_at_call 225; refine (Tryz.utf8_ValidRune _ _).mono ?_; rintro e w' ⟨rfl, hw⟩; rw [hv])
    go_step3
    go_wp2_with (fail)
    generalize Utf8.encode r = E at *
    have f3' := f3 (by omega)
    clear f3
    clear hw
    refine wp_loop_rounds 1 ?_
    rw [rounds_succ]
    by_cases hl : E.size - 1 < s.size
    · have hl2 : ((E.size : Int) - 1) < s.size := by omega
      go_wp2_with (fail)
      have hsl := hs (E.size - 1) hl
      have hne : (((s[E.size - 1]'hl).toNat : Int) == ((E[E.size - 1]'(by omega)).toNat : Int)) = false := by simp; omega
      have hlt256 : (E[E.size - 1]'(by omega)).toNat < 256 := UInt8.toNat_lt _
      generalize hEb : (E[E.size - 1]'(by omega)).toNat = eb at *
      generalize hsb : (s[E.size - 1]'hl).toNat = sb at *
      go_step3
      go_wp2_with (fail)
      refine wp_region_blw (by kernel_rfl) (by kernel_rfl) ?_
      repeat (go_big_quiet_step (fail))
      refine wpQuiet_nil ?_
      rintro W2 ⟨⟨_, hb2⟩, rfl⟩
      have hcall : ∀ i w1, Calls Tryz.prog 224 #[.string (s.extract i s.size), .int .u8 (eb : Int)] w1 fun e w' => e = .returned (.int .i64 (-1)) ∧ w1 = w' := by
        intro i w1
        refine (Tryz.strings_IndexByte _ _ _).mono ?_
        rintro e w' ⟨rfl, rfl⟩
        refine ⟨ret_int (indexByte_high _ _ ?_ ?_), rfl⟩
        · intro b hb
          have := mem_extract hb
          obtain ⟨j, hj, rfl⟩ := List.getElem_of_mem this
          exact hs j (by simpa using hj)
        · simp; omega
      go_wp2_with (fail)
      refine wp_region_blw (by kernel_rfl) (by kernel_rfl) ?_
      repeat (go_big_quiet_step ((go_at_call 224; exact Calls.blw_of_same _ (hcall _ _))))
      refine wpQuiet_nil ?_
      rintro W3 ⟨⟨_, hb3⟩, rfl⟩
      go_wp2_with (fail)
      repeat (first | rw [Exit.noGoto_ret] | (go_wp2; done) | simp only [go_sem])
      go_ret
      exact ⟨rfl, hb2.trans (hb3.mono hb2.size)⟩
    · have hl2 : ¬ ((E.size : Int) - 1) < s.size := by omega
      go_wp2_with (fail)
      go_ret
      exact ⟨rfl, Below.refl _ _⟩
end Go.Proofs.YtifddfchpknkbaaGreatDoor

namespace Go.Proofs.YtifddfchpknkbaaGreatDoor
open Go.RowKit

def asciiL (zs : List Int) : Prop := ∀ z ∈ zs, 0 ≤ z ∧ z < 128
theorem strOfNums_at {zs : List Int} (hz : asciiL zs) (j : Nat) (h : j < (strOfNums zs).size) : ((strOfNums zs)[j]'h).toNat < 128 := by
  have hl : j < zs.length := by rw [← strOfNums_size]; exact h
  have e : (strOfNums zs)[j]'h = UInt8.ofNat (zs[j]).toNat := by
    show (strOfNums zs).data[j] = _
    simp [strOfNums]
  have := hz zs[j] (List.getElem_mem hl)
  rw [e]; simp; omega
theorem indexByte_nums : ∀ (zs : List Int) (c : Int), asciiL zs → 0 ≤ c → c < 128 → decide (0 ≤ Lib.indexByte (zs.map fun n => UInt8.ofNat n.toNat) c.toNat.toUInt8) = decide (c ∈ zs)
  | [], c, _, _, _ => by simp [Lib.indexByte]
  | z :: zs, c, hz, h0, h1 => by
    have hz0 := hz z (by simp)
    have ih := indexByte_nums zs c (fun x hx => hz x (by simp [hx])) h0 h1
    by_cases h : c = z
    · subst h
      simp [Lib.indexByte]
    · have hne : (UInt8.ofNat z.toNat == c.toNat.toUInt8) = false := by
        cases hb : (UInt8.ofNat z.toNat == c.toNat.toUInt8)
        · rfl
        · have := congrArg UInt8.toNat (eq_of_beq hb)
          simp at this; omega
      simp only [List.map_cons, Lib.indexByte, hne]
      have hge : ∀ l : List UInt8, ∀ d, -1 ≤ Lib.indexByte l d := by
        intro l d
        induction l with
        | nil => simp [Lib.indexByte]
        | cons a l ihl => simp only [Lib.indexByte]; split; omega; split; omega; omega
      have hg := hge (zs.map fun n => UInt8.ofNat n.toNat) c.toNat.toUInt8
      simp only [List.mem_cons, h, false_or]
      rw [← ih]
      by_cases hm : Lib.indexByte (zs.map fun n => UInt8.ofNat n.toNat) c.toNat.toUInt8 = -1
      · simp [hm]
      · have : (Lib.indexByte (zs.map fun n => UInt8.ofNat n.toNat) c.toNat.toUInt8 == -1) = false := by simpa using hm
        simp only [this, Bool.false_eq_true, if_false]; congr 1; exact propext (by omega)

theorem containsLow (zs : List Int) (hz : asciiL zs) (r : Int) (w : World) (h0 : 0 ≤ r) (h1 : r < 128) :
    Calls Tryz.prog 180 #[.string (strOfNums zs), .int .i32 r] w fun e w' => e = .returned (.bool (decide (r ∈ zs))) ∧ w = w' := by
  refine (Tryz.strings_ContainsRune_ascii _ _ _ h0 h1).mono ?_
  rintro e w' ⟨rfl, rfl⟩
  exact ⟨ret_bool (by rw [strOfNums_data]; exact indexByte_nums zs r hz h0 h1), rfl⟩
set_option maxRecDepth 1000000 in
theorem containsHigh (zs : List Int) (hz : asciiL zs) (hl : zs.length ≤ 100) (r : Int) (w : World) (h1 : 128 ≤ r) (h2 : r ≤ 2147483647) :
    Calls Tryz.prog 180 #[.string (strOfNums zs), .int .i32 r] w fun e w' => e = .returned (.bool false) ∧ Below w.heap.size w w' := by
  have hsz : (strOfNums zs).size ≤ 100 := by rw [strOfNums_size]; exact hl
  have hs := fun j h => strOfNums_at hz j h
  generalize strOfNums zs = s at *
  by_cases h3 : r = 65533
  · subst h3
    go_enter Tryz.func180, Tryz.ntmps180
    go_wp2_with (go_at_call 203; refine (fffd_any _ _ hs hsz).mono ?_; rintro e w' ⟨rfl, hb⟩)
    go_ret
    exact ⟨rfl, by assumption⟩
  · have h3' : (r == 65533) = false := by simpa using h3
    go_enter Tryz.func180, Tryz.ntmps180
    go_wp2_with (go_at_call 203; refine (high_any _ _ _ hs hsz h1 h2 h3').mono ?_; rintro e w' ⟨rfl, hb⟩)
    go_ret
    exact ⟨rfl, by assumption⟩

/-- A text has no other letters than these. -/
def onlyB (s : ByteArray) (zs : List Int) : Bool := (ltr s).all fun b => decide (b ∈ zs)

set_option maxRecDepth 1000000 in
theorem only_any (s : ByteArray) (b off n cap : Nat) (zs : List Int) (w : World) (hsz : s.size ≤ maxLen) (hz : asciiL zs) (hl : zs.length = n) (hn : n ≤ 100)
    (hbl : b < w.heap.size) (hc : ∀ i, i < n → w.cell? ⟨b, off + i, none⟩ = some (.int .u8 (zs.getD i 0))) :
    Calls Tryz.prog 146 #[.string s, .slice (some ⟨b, off, none⟩) n cap] w fun e w' => e = .returned (.bool (onlyB s zs)) ∧ Below w.heap.size w w' := by
  unfold maxLen at hsz
  go_enter Tryz.func146, Tryz.ntmps146
  go_wp2
  go_loopw [] (fun w' => ∃ pos, w' = w.iter s pos ∧ pos ≤ s.size ∧ ((ltr s).drop pos).all (fun b => decide (b ∈ zs)) = onlyB s zs) (fun w' => s.size - w'.iterPos w.heap.size)
  case atStart => exact ⟨0, rfl, Nat.zero_le _, rfl⟩
  case round =>
    obtain ⟨pos, rfl, hp, ha⟩ := hrel
    have hcv := fun p => run_convert_bytes_arg (P := Tryz.prog) (w.iter s p) 89 5 Tryz.underlying89 Tryz.underlying5 b off n cap zs hl (fun i hi => by rw [← hc i hi]; exact (below_iter w s p).cell (p := ⟨b, off + i, none⟩) hbl)
    clear hc
    by_cases hlt : pos < s.size
    · have hd := all_drop (fun b : Int => decide (b ∈ zs)) (ltr s) pos (by rw [ltr_len]; exact hlt)
      rw [ha, ltr_at s pos hlt] at hd
      have HD := Lib.hid hd; clear hd ha
      by_cases hb : (s[pos]'hlt).toNat < 128
      · have hnx : ∀ ty, (Instr.next (.pointer (some ⟨w.heap.size, 0, none⟩)) true ty).run Tryz.prog (w.iter s pos) = _ := fun ty => run_next_ascii w s pos ty hlt hb
        generalize (s[pos]'hlt).toNat = bb at *
        have hb0 : (0 : Int) ≤ bb := by omega
        have hb1 : (bb : Int) < 128 := by omega
        cases hm : decide ((bb : Int) ∈ zs)
        · go_wp2_with (go_at_call 180; refine (containsLow zs hz _ _ hb0 hb1).mono ?_; rintro e w' ⟨rfl, rfl⟩; rw [hm])
          go_ret
          exact ⟨ret_bool (by rw [HD.out, hm]; rfl), below_iter _ _ _⟩
        · go_wp2_with (go_at_call 180; refine (containsLow zs hz _ _ hb0 hb1).mono ?_; rintro e w' ⟨rfl, rfl⟩; rw [hm])
          go_roundw
          case rel => exact ⟨pos + 1, rfl, by omega, by rw [HD.out, hm]; simp⟩
          case measure => simp; omega
      · have hnx : ∀ ty, (Instr.next (.pointer (some ⟨w.heap.size, 0, none⟩)) true ty).run Tryz.prog (w.iter s pos) = _ := fun ty => run_next_any w s pos ty hlt
        obtain ⟨hr1, hr2⟩ := decode_high s pos hlt (by omega)
        have hr3 := decode_le s pos
        have hm : decide ((((s[pos]'hlt).toNat : Nat) : Int) ∈ zs) = false := by
          simp only [decide_eq_false_iff_not]; intro h; have := hz _ h; omega
        generalize (s[pos]'hlt).toNat = bb at *
        generalize Utf8.decode s pos = dd at *
        obtain ⟨d1, d2⟩ := dd
        have hr1' : (128 : Int) ≤ (d1 : Int) := by simp at hr1; omega
        have hr3' : (d1 : Int) ≤ 2147483647 := by simp at hr3; omega
        go_wp2_with (go_at_call 180; refine (containsHigh zs hz (by omega) _ _ hr1' hr3').mono ?_; rintro e w' ⟨rfl, hbb⟩)
        go_ret
        refine ⟨ret_bool (by rw [HD.out, hm]; rfl), ?_⟩
        exact (below_iter w s (pos + d2)).trans (hbb.mono (below_iter w s (pos + d2)).size)
    · have hnx : ∀ ty, (Instr.next (.pointer (some ⟨w.heap.size, 0, none⟩)) true ty).run Tryz.prog (w.iter s pos) = _ := fun ty => run_next_end w s pos ty hlt
      have hn : (ltr s).drop pos = [] := List.drop_eq_nil_of_le (by rw [ltr_len]; omega)
      rw [hn] at ha
      have HA := Lib.hid ha; clear ha hn
      go_wp2
      go_ret
      exact ⟨ret_bool (by rw [← HA.out]; rfl), below_iter _ _ _⟩
theorem only_rd (s : ByteArray) (A : Option Addr) (n cap : Nat) (zs : List Int) (w : World) (hsz : s.size ≤ maxLen) (hz : asciiL zs) (h0 : 0 < n) (hn : n ≤ 100) (hr : Rd w w.heap.size 1 A n (zs.map (Value.int .u8))) :
    Calls Tryz.prog 146 #[.string s, .slice A n cap] w fun e w' => e = .returned (.bool (onlyB s zs)) ∧ Below w.heap.size w w' := by
  have hl := hr.len
  obtain ⟨b, off, rfl, hb, hc⟩ := hr.2 h0
  exact only_any s b off n cap zs w hsz hz hl hn hb fun i hi => hc i _ (by simp [List.getD, List.getElem?_eq_getElem (show i < zs.length by omega)])
end Go.Proofs.YtifddfchpknkbaaGreatDoor

namespace Go.Proofs.YtifddfchpknkbaaGreatDoor
open Go.RowKit

/-- A figure's rows are as defined. -/
def rowB (wd : Nat) (r : ByteArray) : Bool := decide (r.size = wd) && onlyB r [35, 46]
def hashB (r : ByteArray) : Bool := decide (0 < cntL (ltr r) [35])
def wdOf (rows : List ByteArray) : Nat := (rows.headD ByteArray.empty).size
def figB (rows : List ByteArray) : Bool := inB rows.length 1 6 && (inB (wdOf rows) 1 6 && (rows.all (rowB (wdOf rows)) && rows.any hashB))

theorem all_take {α : Type} (p : α → Bool) (l : List α) (k : Nat) (h : k < l.length) : (l.take (k + 1)).all p = ((l.take k).all p && p l[k]) := by
  rw [List.take_succ_eq_append_getElem h, List.all_append]; simp
theorem all_stop {α : Type} (p : α → Bool) (l : List α) (k : Nat) (h : k < l.length) (hf : p l[k] = false) : l.all p = false := by
  rw [List.all_eq_false]; exact ⟨l[k], List.getElem_mem h, by simp [hf]⟩
theorem ascii2 : asciiL [35, 46] := by intro z hz; simp at hz; omega

set_option maxRecDepth 1000000 in
set_option maxHeartbeats 1000000 in
theorem goodFigure_any (A : Option Addr) (n cap : Nat) (rows : List ByteArray) (w : World) (hn : n ≤ maxLen) (hs : ∀ r ∈ rows, r.size ≤ maxLen) (hr : Rd w w.heap.size 1 A n (rows.map Value.string)) :
    Calls Tryz.prog 98 #[.agg #[.slice A n cap]] w fun e w' => e = .returned (.bool (figB rows)) ∧ Below w.heap.size w w' := by
  have hlen := hr.len
  unfold maxLen at hn
  have hfig : figB rows = (inB n 1 6 && (inB (wdOf rows) 1 6 && (rows.all (rowB (wdOf rows)) && rows.any hashB))) := by rw [figB, hlen]
  have HF := Lib.hid hfig; clear hfig
  cases h1 : inB n 1 6
  · go_enter Tryz.func98, Tryz.ntmps98
    go_wp2_with (go_at_call 130; refine (within_any _ _ _ _).mono ?_; rintro e w' ⟨rfl, rfl⟩)
    go_ret
    exact ⟨ret_bool (by rw [HF.out, h1]; rfl), (Below.refl _ _).alloc (Nat.le_refl _) _⟩
  · have hn0 : 0 < n ∧ n ≤ 6 := by simp [inB] at h1; omega
    obtain ⟨hn1, hn6⟩ := hn0
    have hlt0 : 0 < rows.length := by omega
    obtain ⟨b, off, rfl, hb, hc⟩ := hr.2 hn1
    have hc0 := hc 0 (.string rows[0]) (by simp [hlt0])
    rw [Nat.add_zero] at hc0
    have hwd : wdOf rows = rows[0].size := by cases rows with | nil => simp at hlt0 | cons a l => rfl
    have hs0 := hs _ (List.getElem_mem hlt0)
    obtain ⟨r0, hr0⟩ : ∃ r0, r0 = rows[0] := ⟨_, rfl⟩
    rw [← hr0] at hc0 hwd hs0
    unfold maxLen at hs0
    rw [hwd] at HF
    clear hr0 hwd
    cases h2 : inB r0.size 1 6
    · go_enter Tryz.func98, Tryz.ntmps98
      go_wp2_with (go_at_call 130; refine (within_any _ _ _ _).mono ?_; rintro e w' ⟨rfl, rfl⟩)
      go_ret
      exact ⟨ret_bool (by rw [HF.out, h1, h2]; rfl), (Below.refl _ _).alloc (Nat.le_refl _) _⟩
    · go_enter Tryz.func98, Tryz.ntmps98
      go_wp2_with (go_at_call 130; refine (within_any _ _ _ _).mono ?_; rintro e w' ⟨rfl, rfl⟩)
      have hbf := Blk.new w 26 #[.slice (some ⟨b, off, none⟩) n cap]
      go_loopg [3, 21] n (fun g t i wr => ∃ k : Nat, g = n - k ∧ k ≤ n ∧ i = .int .i64 k ∧ t = .bool ((rows.take k).any hashB) ∧ (rows.take k).all (rowB r0.size) = true ∧ Below w.heap.size w wr ∧ Blk wr w.heap.size 26 #[.slice (some ⟨b, off, none⟩) n cap])
      case atStart => exact ⟨0, rfl, Nat.zero_le _, rfl, rfl, rfl, (Below.refl _ _).alloc (Nat.le_refl _) _, hbf⟩
      case round =>
        clear hbf
        obtain ⟨k, hg, hk, rfl, rfl, hall, hB, hbf⟩ := hrel
        have HG := Lib.hid hg; clear hg
        have HALL := Lib.hid hall; clear hall
        have hcf := fun i => hbf.cell i
        have hcr0 := (hB.cell (p := ⟨b, off, none⟩) hb).trans hc0
        by_cases hlt : k < n
        · have hkr : k < rows.length := by omega
          have hck := (hB.cell (p := ⟨b, off + k, none⟩) hb).trans (hc k (.string rows[k]) (by simp [hkr]))
          have hsk := hs _ (List.getElem_mem hkr)
          have ha := all_take (rowB r0.size) rows k hkr
          have hy := any_take hashB rows k hkr
          have hstop := all_stop (rowB r0.size) rows k hkr
          obtain ⟨rk, hrk⟩ : ∃ rk, rk = rows[k] := ⟨_, rfl⟩
          rw [← hrk] at hck hsk ha hy hstop
          clear hrk
          have hsk2 : rk.size < 9223372036854775808 := by unfold maxLen at hsk; omega
          have HA := Lib.hid ha; have HY := Lib.hid hy; have HST := Lib.hid hstop; clear ha hy hstop
          have HSK := Lib.hid hsk; clear hsk
          generalize hacc : (rows.take k).any hashB = acc at *
          have HACC := Lib.hid hacc; clear hacc
          by_cases hq : (rk.size : Int) = r0.size
          · cases ho : onlyB rk [35, 46]
            · have hrf : rowB r0.size rk = false := by simp [rowB, ho]
              go_wp2_with (go_at_call 146; refine (only_rd rk _ 2 2 [35, 46] _ HSK.out ascii2 (by decide) (by decide) (Rd.blk (Blk.new _ _ _) rfl (by simp))).mono ?_; rintro e w1 ⟨rfl, hb1⟩; obtain ⟨hcc, hff⟩ := bcell hb1)
              go_ret
              exact ⟨ret_bool (by rw [HF.out, HST.out hrf]; simp), (hB.alloc hB.size _).trans (hb1.mono (by have := hB.size; simp; omega))⟩
            · have hrt : rowB r0.size rk = true := by simp [rowB, ho]; omega
              have HRT := Lib.hid hrt; clear hrt
              cases acc
              · have hcl := cntL_le (ltr rk) [35]
                rw [ltr_len] at hcl
                have hrs : rk.size ≤ 6 := by simp [inB] at h2; omega
                by_cases hh : (0 : Int) < (cntL (ltr rk) [35] : Int)
                · have hhb : hashB rk = true := by simp [hashB]; omega
                  go_wp2_with (first
                    | (go_at_call 146; refine (only_rd rk _ 2 2 [35, 46] _ HSK.out ascii2 (by decide) (by decide) (Rd.blk (Blk.new _ _ _) rfl (by simp))).mono ?_; rintro e w1 ⟨rfl, hb1⟩; rw [ho]; have hB1 : Below w.heap.size w w1 := (hB.alloc hB.size _).trans (hb1.mono (by have := hB.size; simp; omega)); have hbf1 := (hbf.alloc (.cells #[.int .u8 35, .int .u8 46] 5)).below hb1 (hbf.alloc _).lt; obtain ⟨hcc, hff⟩ := bcell hb1)
                    | (go_at_call 103; refine (count_any rk _ 1 1 [35] _ _ HSK.out (by decide) (Rd.blk (Blk.new _ _ _) rfl (Nat.lt_succ_self _))).mono ?_; rintro e w2 ⟨rfl, rfl⟩))
                  go_roundg (n - (k + 1))
                  case measure => rw [HG.out]; omega
                  case rel => exact ⟨k + 1, rfl, by omega, by go_num, by rw [HY.out, hhb]; simp; omega, by rw [HA.out, HALL.out, HRT.out]; rfl, hB1.alloc hB1.size _, hbf1.alloc _⟩
                · have hhb : hashB rk = false := by simp [hashB]; omega
                  go_wp2_with (first
                    | (go_at_call 146; refine (only_rd rk _ 2 2 [35, 46] _ HSK.out ascii2 (by decide) (by decide) (Rd.blk (Blk.new _ _ _) rfl (by simp))).mono ?_; rintro e w1 ⟨rfl, hb1⟩; rw [ho]; have hB1 : Below w.heap.size w w1 := (hB.alloc hB.size _).trans (hb1.mono (by have := hB.size; simp; omega)); have hbf1 := (hbf.alloc (.cells #[.int .u8 35, .int .u8 46] 5)).below hb1 (hbf.alloc _).lt; obtain ⟨hcc, hff⟩ := bcell hb1)
                    | (go_at_call 103; refine (count_any rk _ 1 1 [35] _ _ HSK.out (by decide) (Rd.blk (Blk.new _ _ _) rfl (Nat.lt_succ_self _))).mono ?_; rintro e w2 ⟨rfl, rfl⟩))
                  go_roundg (n - (k + 1))
                  case measure => rw [HG.out]; omega
                  case rel => exact ⟨k + 1, rfl, by omega, by go_num, by rw [HY.out, hhb]; simp; omega, by rw [HA.out, HALL.out, HRT.out]; rfl, hB1.alloc hB1.size _, hbf1.alloc _⟩
              · go_wp2_with (go_at_call 146; refine (only_rd rk _ 2 2 [35, 46] _ HSK.out ascii2 (by decide) (by decide) (Rd.blk (Blk.new _ _ _) rfl (by simp))).mono ?_; rintro e w1 ⟨rfl, hb1⟩; rw [ho]; have hB1 : Below w.heap.size w w1 := (hB.alloc hB.size _).trans (hb1.mono (by have := hB.size; simp; omega)); have hbf1 := (hbf.alloc (.cells #[.int .u8 35, .int .u8 46] 5)).below hb1 (hbf.alloc _).lt; obtain ⟨hcc, hff⟩ := bcell hb1)
                go_roundg (n - (k + 1))
                case measure => rw [HG.out]; omega
                case rel => exact ⟨k + 1, rfl, by omega, by go_num, by rw [HY.out]; simp, by rw [HA.out, HALL.out, HRT.out]; rfl, hB1, hbf1⟩
          · have hrf : rowB r0.size rk = false := by simp [rowB]; intro h; omega
            go_wp2_with (fail)
            go_ret
            exact ⟨ret_bool (by rw [HF.out, HST.out hrf]; simp), hB⟩
        · obtain rfl : k = n := by omega
          have hta : rows.take k = rows := List.take_of_length_le (by omega)
          rw [hta] at HALL ⊢
          go_wp2
          go_ret
          exact ⟨ret_bool (by rw [HF.out, HALL.out]; simp [h1, h2]), hB⟩
end Go.Proofs.YtifddfchpknkbaaGreatDoor
