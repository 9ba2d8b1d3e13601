import Derived.Test.YtifddfchpknkbaaGreatDoorTx
set_option linter.unusedVariables false
set_option linter.unusedSimpArgs false
namespace Go.Proofs.YtifddfchpknkbaaGreatDoor
open Go.RowKit Go.Lib

/-- The sight of the chapter's example with one cell that is seen. -/
def dRows : List ByteArray := (List.replicate 8 blankRow).set 4 (seenRow blankRow 35 4)
set_option maxRecDepth 100000 in
set_option maxHeartbeats 400000 in
theorem D_fun (w : World) : Calls Tryz.prog 94 #[] w fun e w' => ∃ v, e = .returned v ∧ IsL w' v (dRows.map Value.string) ∧ Below w.heap.size w w' := by
  go_enter Tryz.func94, Tryz.ntmps94
  go_wp2_with (first
    | (go_at_call 93; refine (S_fun _).mono ?_; rintro e w1 ⟨rfl, hb1⟩)
    | (go_at_call 95; refine (N_fun _).mono ?_; rintro e w2 ⟨v2, rfl, own2, hb2⟩; obtain ⟨A2, c2, rfl⟩ := own_slice own2)
    | (go_at_call 82; refine (refSeen_36 A2 c2 (List.replicate 8 blankRow) blankRow _ rfl rfl (by have h := Rd.of_own own2; simpa using h)).mono ?_; rintro e w3 ⟨v3, rfl, own3, hb3⟩))
  go_ret
  obtain ⟨A3, c3, rfl⟩ := own_slice own3
  exact ⟨_, rfl, ⟨A3, 8, c3, rfl, own_le0 own3, own_cap own3, Rd.of_own own3⟩, (hb1.trans (hb2.mono hb1.size)).trans (hb3.mono (Nat.le_trans hb1.size hb2.size))⟩

set_option maxRecDepth 100000 in
theorem insist_ok (w : World) : Calls Tryz.prog 175 #[.bool true] w fun e w' => e = .returned (.tuple #[]) ∧ w = w' := by
  go_enter Tryz.func175, Tryz.ntmps175
  go_wp2
  exact ⟨rfl, .tuple #[], by simp [results, Tryz.results175, go_sem], rfl, rfl⟩

set_option maxRecDepth 100000 in
theorem word_stage (w : World) : Calls Tryz.prog 196 #[.int .i64 0] w fun e w' => e = .returned (.string ⟨#[115, 116, 97, 103, 101]⟩) ∧ w = w' := by
  have hix : ∀ w, (Instr.index 278 (.agg #[.string ⟨#[115, 116, 97, 103, 101]⟩, .string ⟨#[102, 105, 103, 117, 114, 101]⟩, .string ⟨#[101, 110, 100]⟩]) (.int .i64 0)).run Tryz.prog w = .ok (.string ⟨#[115, 116, 97, 103, 101]⟩) w := fun _ => by kernel_rfl
  go_enter Tryz.func196, Tryz.ntmps196
  go_wp2
  go_ret
  exact ⟨rfl, rfl⟩

set_option maxRecDepth 100000 in
theorem word_figure (w : World) : Calls Tryz.prog 196 #[.int .i64 1] w fun e w' => e = .returned (.string ⟨#[102, 105, 103, 117, 114, 101]⟩) ∧ w = w' := by
  have hix : ∀ w, (Instr.index 278 (.agg #[.string ⟨#[115, 116, 97, 103, 101]⟩, .string ⟨#[102, 105, 103, 117, 114, 101]⟩, .string ⟨#[101, 110, 100]⟩]) (.int .i64 1)).run Tryz.prog w = .ok (.string ⟨#[102, 105, 103, 117, 114, 101]⟩) w := fun _ => by kernel_rfl
  go_enter Tryz.func196, Tryz.ntmps196
  go_wp2
  go_ret
  exact ⟨rfl, rfl⟩

set_option maxRecDepth 100000 in
theorem word_end (w : World) : Calls Tryz.prog 196 #[.int .i64 2] w fun e w' => e = .returned (.string ⟨#[101, 110, 100]⟩) ∧ w = w' := by
  have hix : ∀ w, (Instr.index 278 (.agg #[.string ⟨#[115, 116, 97, 103, 101]⟩, .string ⟨#[102, 105, 103, 117, 114, 101]⟩, .string ⟨#[101, 110, 100]⟩]) (.int .i64 2)).run Tryz.prog w = .ok (.string ⟨#[101, 110, 100]⟩) w := fun _ => by kernel_rfl
  go_enter Tryz.func196, Tryz.ntmps196
  go_wp2
  go_ret
  exact ⟨rfl, rfl⟩

set_option maxRecDepth 100000 in
theorem endWords_70 (w : World) : Calls Tryz.prog 280 #[.agg #[.int .i64 70]] w fun e w' => ∃ v, e = .returned v ∧ w'.ownsRow w.heap.size 9 1 v 1 [.string ⟨#[48, 55, 48]⟩] ∧ Below w.heap.size w w' := by
  have hd : (decDigits 70).toArray = #[55, 48] := by simp [decDigits]
  go_enter Tryz.func280, Tryz.ntmps280
  go_wp2_with (first
    | (go_at_call 222; refine (Tryz.strconv_Itoa_small 70 (by omega) _).mono ?_; rintro e w1 ⟨rfl, rfl⟩; rw [hd])
    | (go_at_call 151; refine (Tryz.strings_Repeat_one _ _).mono ?_; rintro e w1 ⟨rfl, rfl⟩))
  go_ret
  have h9 : (⟨#[48]⟩ : ByteArray) ++ ⟨#[55, 48]⟩ = ⟨#[48, 55, 48]⟩ := by decide
  rw [h9]
  have h := World.ownsRow_lit (base := w.heap.size) (e := 9) (size := 1) (w.alloc (.cells #[.int .i64 70] 252)) #[.string ⟨#[48, 55, 48]⟩] 1 (by simp only [World.size_alloc]; omega) (by unfold maxLen; omega) rfl
  rw [World.size_alloc] at h
  exact ⟨_, rfl, h, ((Below.refl w.heap.size w).alloc (Nat.le_refl _) (.cells #[.int .i64 70] 252)).alloc (by simp only [World.size_alloc]; omega) (.cells #[.string ⟨#[48, 55, 48]⟩] 9)⟩

set_option maxRecDepth 100000 in
theorem kindOf_end (n : Int) (w : World) : Calls Tryz.prog 195 #[.iface 252 (.agg #[.int .i64 n])] w fun e w' => e = .returned (.int .i64 2) ∧ w = w' := by
  have h1 : ∀ w, (Instr.typeAssert (.iface 252 (.agg #[.int .i64 n])) 248 218 true).run Tryz.prog w = .ok (.tuple #[.agg #[.int .i64 0, .int .i64 0, .int .i64 0, .int .i64 0, .int .i64 0, .int .i64 0], .bool false]) w := fun _ => by kernel_rfl
  obtain ⟨z, hz⟩ : ∃ z, z = ((Tryz.prog.info? 220).bind (·.zero)).getD (.int .i64 0) := ⟨_, rfl⟩
  have h2 : ∀ w, (Instr.typeAssert (.iface 252 (.agg #[.int .i64 n])) 248 220 true).run Tryz.prog w = .ok (.tuple #[z, .bool false]) w := fun _ => by rw [hz]; kernel_rfl
  have HZ := Lib.hid hz; clear hz
  go_enter Tryz.func195, Tryz.ntmps195
  go_wp2
  go_ret
  exact ⟨rfl, rfl⟩

set_option maxRecDepth 100000 in
theorem linesOf_ok (s : ByteArray) (m : Int) (w : World) (hs : s.size ≤ 1000) (hm : w.cell? ⟨0, 0, none⟩ = some (.int .i64 m)) (hend : Lib.hasSuffix s.data.toList [10] = true) (htz : ByteArray.size ⟨(Lib.trimSuffix s.data.toList [10]).toArray⟩ ≤ 1000) :
    Calls Tryz.prog 174 #[.string s] w fun e w' => e = .returned (.slice (some ⟨w.heap.size, 0, none⟩) (Lib.countB ⟨(Lib.trimSuffix s.data.toList [10]).toArray⟩ ⟨#[10]⟩ + 1) (Lib.countB ⟨(Lib.trimSuffix s.data.toList [10]).toArray⟩ ⟨#[10]⟩ + 1)) ∧ w' = w.alloc (.cells ((Lib.splitB ⟨#[10]⟩ 0 (Lib.countB ⟨(Lib.trimSuffix s.data.toList [10]).toArray⟩ ⟨#[10]⟩) ⟨(Lib.trimSuffix s.data.toList [10]).toArray⟩).map Value.string).toArray 9) := by
  go_enter Tryz.func174, Tryz.ntmps174
  go_wp2_with (first
    | (go_at_call 198; refine (Tryz.strings_CutSuffix s ⟨#[10]⟩ _ (by omega)).mono ?_; rintro e w1 ⟨rfl, rfl⟩; rw [hend])
    | (go_at_call 175; refine (insist_ok _).mono ?_; rintro e w1 ⟨rfl, rfl⟩)
    | (go_at_call 199; refine (Tryz.strings_Split ⟨(Lib.trimSuffix s.data.toList [10]).toArray⟩ ⟨#[10]⟩ m _ (by omega) hm (by decide)).mono ?_; rintro e w1 ⟨rfl, rfl⟩))
  go_ret
  exact ⟨rfl, rfl⟩

set_option maxRecDepth 100000 in
theorem writeEnd_70 (w : World) : Calls Tryz.prog 171 #[.iface 252 (.agg #[.int .i64 70])] w fun e w' => e = .returned (.string ⟨#[101, 110, 100, 32, 48, 55, 48]⟩) ∧ Below w.heap.size w w' := by
  have hm : ∀ w, (method 425 252 (.agg #[.int .i64 70]) "kelir/outline.words").run Tryz.prog w = .ok (280, .agg #[.int .i64 70]) w := fun _ => by kernel_rfl
  go_enter Tryz.func171, Tryz.ntmps171
  go_wp2_with (first
    | (go_at_call 195; refine (kindOf_end 70 _).mono ?_; rintro e w1 ⟨rfl, rfl⟩)
    | (go_at_call 196; refine (word_end _).mono ?_; rintro e w1 ⟨rfl, rfl⟩)
    | (go_at_call 280; refine (endWords_70 _).mono ?_; rintro e w1 ⟨v1, rfl, own1, hb1⟩; obtain ⟨g, c1, rfl, hg1, hg2⟩ := own1.form (Nat.succ_pos _))
    | (go_at_call 161; refine (Tryz.strings_Join g 0 c1 [⟨#[48, 55, 48]⟩] ⟨#[32]⟩ _ (fun j x hj => by rw [Nat.zero_add]; obtain rfl : j = 0 := (by by_cases h : j = 0; exact h; exfalso; rw [List.getElem?_eq_none (by simp only [List.length_cons, List.length_nil]; omega)] at hj; cases hj); cases hj; rw [own1.cellAt 0 (by omega)]; rfl) hg2 (by simp) (by exact own_le0 own1) (by decide)).mono ?_; rintro e w2 ⟨rfl, hb2⟩))
  go_ret
  refine ⟨?_, hb1.trans (hb2.mono hb1.size)⟩
  have h9 : (⟨#[101, 110, 100]⟩ ++ ⟨#[32]⟩ ++ ⟨(join [[48, 55, 48]] [32]).toArray⟩ : ByteArray) = ⟨#[101, 110, 100, 32, 48, 55, 48]⟩ := by decide
  simp only [Array.getD, Act.tmps] at *
  rw [← h9]; rfl

set_option maxRecDepth 100000 in
theorem endOf_70 (A : Option Addr) (n cap : Nat) (rs : List ByteArray) (w : World) (hn : n ≤ 100000) (hs : ∀ r ∈ rs, r.size ≤ 100000) (hr : Rd w w.heap.size 1 A n (rs.map Value.string)) (h70 : sumA rs 0 0 = 12699) :
    Calls Tryz.prog 172 #[.slice A n cap] w fun e w' => e = .returned (.string ⟨#[101, 110, 100, 32, 48, 55, 48]⟩) ∧ Below w.heap.size w w' := by
  go_enter Tryz.func172, Tryz.ntmps172
  go_wp2_with (first
    | (go_at_call 197; refine (sum_any A n cap rs _ hn hs hr).mono ?_; rintro e w1 ⟨rfl, rfl⟩; rw [h70])
    | (go_at_call 171; refine (writeEnd_70 _).mono ?_; rintro e w1 ⟨rfl, hb1⟩))
  go_ret
  exact ⟨rfl, hb1⟩
end Go.Proofs.YtifddfchpknkbaaGreatDoor

namespace Go.Proofs.YtifddfchpknkbaaGreatDoor
open Go.RowKit Go.Lib

set_option maxRecDepth 100000 in
set_option maxHeartbeats 800000 in
theorem wordsOf_ok (k : Int) (kw : ByteArray) (l : ByteArray) (n : Nat) (ws : List ByteArray) (m : Int) (w : World) (hkw : ∀ w : World, Calls Tryz.prog 196 #[.int .i64 k] w fun e w' => e = .returned (.string kw) ∧ w = w') (hl : l.size ≤ 1000) (hm : w.cell? ⟨0, 0, none⟩ = some (.int .i64 m))
    (hn : countB l ⟨#[32]⟩ = n) (hn1 : 1 ≤ n) (hn2 : n ≤ 1000) (hws : splitB ⟨#[32]⟩ 0 n l = ws) (hwl : ws.length = n + 1) (h0 : ws[0]? = some kw) (hct : containsS ws ⟨#[]⟩ = false) :
    Calls Tryz.prog 177 #[.int .i64 k, .string l] w fun e w' => ∃ v, e = .returned v ∧ w'.ownsRow w.heap.size 9 1 v n ((ws.drop 1).map Value.string) ∧ Below w.heap.size w w' := by
  have HN := Lib.hid hn; have HWS := Lib.hid hws; have HWL := Lib.hid hwl; have HH0 := Lib.hid h0
  clear hn hws hwl h0
  go_enter Tryz.func177, Tryz.ntmps177
  go_upto_region 2 with (first
    | (go_at_call 199; refine (Tryz.strings_Split l ⟨#[32]⟩ m _ (by omega) hm (by decide)).mono ?_; rintro e w1 ⟨rfl, rfl⟩; rw [HN.out, HWS.out]))
  have hbk : Blk (w.alloc (.cells (ws.map Value.string).toArray 9)) w.heap.size 9 (ws.map Value.string).toArray := Blk.new _ _ _
  have hBw : Below w.heap.size w (w.alloc (.cells (ws.map Value.string).toArray 9)) := (Below.refl _ w).alloc (Nat.le_refl _) _
  have hlw := hbk.lt
  obtain ⟨b, hb⟩ : ∃ b, b = w.heap.size := ⟨_, rfl⟩
  rw [← hb] at hbk hlw ⊢
  have HB := Lib.hid hb; clear hb
  generalize w.alloc (.cells (ws.map Value.string).toArray 9) = w1 at *
  have hcz : ∀ (p : Blw w1.heap.size w1) (j : Nat), j < ws.length → p.to.cell? ⟨b, j, none⟩ = some (.string (ws.getD j ByteArray.empty)) := fun p j hj => by
    rw [blw_blk hbk p j]; simp [List.getD, hj]
  have hc0 : ∀ (p : Blw w1.heap.size w1), p.to.cell? ⟨b, 0, none⟩ = some (.string kw) := fun p => by
    rw [hcz p 0 (by have := HWL.out; omega), List.getD, HH0.out]; rfl
  have hn1i : (1 : Int) < (n : Int) + 1 := by omega
  refine wp_region_blw (by kernel_rfl) (by kernel_rfl) ?_
  repeat (go_big_quiet_step (first
    | (go_at_call 196; exact Calls.blw_of_same _ (hkw _))
    | (go_at_call 201; exact Calls.blw_of_same _ ((Tryz.slices_Contains_string b 0 (n + 1) (n + 1) ws ⟨#[]⟩ _ (by have := HWL.out; omega) (by omega) (fun j hj => by rw [Nat.zero_add]; exact hcz _ j hj)).mono fun _ _ h => ⟨h.1.trans (by rw [List.take_of_length_le (by have := HWL.out; omega), hct]), h.2.symm⟩))
    | (go_at_call 175; exact Calls.blw_of_same _ (insist_ok _))))
  refine wpQuiet_nil ?_
  rintro W3 ⟨⟨_, hb3⟩, rfl⟩
  have hbk3 := hbk.below hb3 hlw
  have hlw3 := hbk3.lt
  have hB3 := hBw.trans (hb3.mono hBw.size)
  clear hcz hc0 hbk hlw hBw hb3
  have hsl := run_slice_lo (P := Tryz.prog) 24 9 1 Tryz.underlying24 (fun _ => by kernel_rfl) (some ⟨b, 0, none⟩) (n + 1) (n + 1) .i64 1 (by omega) (by omega)
  rw [show cutA (some ⟨b, 0, none⟩) (n + 1) 1 1 = some ⟨b, 1, none⟩ by unfold cutA; rw [if_neg (by omega)]; rfl, show n + 1 - 1 = n by omega] at hsl
  go_wp2_with (first
    | (go_at_call 202; (refine (Tryz.slices_Clone_string b 1 n n (ws.drop 1) _ (by rw [List.length_drop, HWL.out]; omega) (by omega) (fun j hj => by rw [hbk3.cell (1 + j)]; rw [List.length_drop] at hj; simp [List.getD, hj, Nat.add_comm])).mono ?_; rintro e w4 ⟨v4, rfl, own4, _, hb4⟩; rw [List.take_of_length_le (by rw [List.length_drop, HWL.out]; omega)] at own4; replace own4 := own_mono own4 hB3.size)))
  go_ret
  exact ⟨_, rfl, own4, hB3.trans (hb4.mono hB3.size)⟩
end Go.Proofs.YtifddfchpknkbaaGreatDoor

namespace Go.Proofs.YtifddfchpknkbaaGreatDoor
open Go.RowKit Go.Lib

set_option maxRecDepth 100000 in
set_option maxHeartbeats 800000 in
theorem parseDigit (s : ByteArray) (d : Nat) (w : World) (hd : d < 10) (hs : s = ⟨(decDigits d).toArray⟩) (hsz : s.size = 1) (hb : (s[0]'(by omega)).toNat = 48 + d) :
    Calls Tryz.prog 200 #[.string s] w fun e w' => e = .returned (.int .i64 d) ∧ Below w.heap.size w w' := by
  have HS := Lib.hid hs; clear hs
  have hin : inB (1 : Int) 1 2 = true := by decide
  go_enter Tryz.func200, Tryz.ntmps200
  go_wp2_with (first
    | (go_at_call 130; refine (within_any _ _ _ _).mono ?_; rintro e w1 ⟨rfl, rfl⟩; rw [hin])
    | (go_at_call 175; refine (insist_ok _).mono ?_; rintro e w1 ⟨rfl, rfl⟩))
  go_loopw [3] (fun v w' => ∃ pos, w' = w.iter s pos ∧ ((pos = 0 ∧ v = .int .i64 0) ∨ (pos = 1 ∧ v = .int .i64 d))) (fun _ w' => 1 - w'.iterPos w.heap.size)
  case atStart => exact ⟨0, rfl, .inl ⟨rfl, rfl⟩⟩
  case round =>
    obtain ⟨pos, rfl, ⟨rfl, rfl⟩ | ⟨rfl, rfl⟩⟩ := hrel
    · have hnx : ∀ ty, (Instr.next (.pointer (some ⟨w.heap.size, 0, none⟩)) true ty).run Tryz.prog (w.iter s 0) = _ := fun ty => run_next_ascii w s 0 ty (by omega) (by omega)
      rw [hb] at hnx
      clear hb
      have h1 : (48 : Int) ≤ 48 + (d : Int) := by omega
      have h2 : (48 : Int) + (d : Int) ≤ 57 := by omega
      go_wp2_with (first
        | (go_at_call 175; refine (insist_ok _).mono ?_; rintro e w1 ⟨rfl, rfl⟩))
      go_roundw
      case rel => exact ⟨1, rfl, .inr ⟨rfl, by go_num⟩⟩
      case measure => simp
    · have hnx : ∀ ty, (Instr.next (.pointer (some ⟨w.heap.size, 0, none⟩)) true ty).run Tryz.prog (w.iter s 1) = _ := fun ty => run_next_end w s 1 ty (by omega)
      go_wp2_with (first
        | (go_at_call 222; refine (Tryz.strconv_Itoa_small d (by omega) _).mono ?_; rintro e w1 ⟨rfl, rfl⟩; rw [← HS.out])
        | (go_at_call 175; refine (insist_ok _).mono ?_; rintro e w1 ⟨rfl, rfl⟩))
      go_ret
      exact ⟨rfl, below_iter _ _ _⟩
end Go.Proofs.YtifddfchpknkbaaGreatDoor
