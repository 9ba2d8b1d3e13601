import Derived.Test.YtifddfchpknkbaaGreatDoorV2
import Derived.Test.YtifddfchpknkbaaGreatDoorTx
set_option linter.unusedVariables false
set_option linter.unusedSimpArgs false
namespace Go.Proofs.YtifddfchpknkbaaGreatDoor
open Go.RowKit Go.Lib

def wStage : ByteArray := ⟨#[115, 116, 97, 103, 101]⟩
def wFigure : ByteArray := ⟨#[102, 105, 103, 117, 114, 101]⟩
def wEnd : ByteArray := ⟨#[101, 110, 100]⟩
set_option maxRecDepth 100000 in
theorem kindOf_stage (a0 a1 a2 a3 a4 a5 : Int) (w : World) : Calls Tryz.prog 195 #[.iface 218 (.agg #[.int .i64 a0, .int .i64 a1, .int .i64 a2, .int .i64 a3, .int .i64 a4, .int .i64 a5])] w fun e w' => e = .returned (.int .i64 0) ∧ w = w' := by
  have h1 : ∀ w, (Instr.typeAssert (.iface 218 (.agg #[.int .i64 a0, .int .i64 a1, .int .i64 a2, .int .i64 a3, .int .i64 a4, .int .i64 a5])) 248 218 true).run Tryz.prog w = .ok (.tuple #[.agg #[.int .i64 a0, .int .i64 a1, .int .i64 a2, .int .i64 a3, .int .i64 a4, .int .i64 a5], .bool true]) w := fun _ => by kernel_rfl
  go_enter Tryz.func195, Tryz.ntmps195
  go_wp2
  go_ret
  exact ⟨rfl, rfl⟩
set_option maxRecDepth 100000 in
theorem kindOf_figure (v : Value) (w : World) : Calls Tryz.prog 195 #[.iface 220 (.agg #[v])] w fun e w' => e = .returned (.int .i64 1) ∧ w = w' := by
  have h1 : ∀ w, (Instr.typeAssert (.iface 220 (.agg #[v])) 248 218 true).run Tryz.prog w = .ok (.tuple #[.agg #[.int .i64 0, .int .i64 0, .int .i64 0, .int .i64 0, .int .i64 0, .int .i64 0], .bool false]) w := fun _ => by kernel_rfl
  have h2 : ∀ w, (Instr.typeAssert (.iface 220 (.agg #[v])) 248 220 true).run Tryz.prog w = .ok (.tuple #[.agg #[v], .bool true]) w := fun _ => by kernel_rfl
  go_enter Tryz.func195, Tryz.ntmps195
  go_wp2
  go_ret
  exact ⟨rfl, rfl⟩
/-- A line: its word, a blank, and the words behind it. -/
def lineS (wd : ByteArray) (ws : List ByteArray) : ByteArray := wd ++ ⟨#[32]⟩ ++ jnS ws ⟨#[32]⟩
theorem size_app (a b : ByteArray) : (a ++ b).size = a.size + b.size := ByteArray.size_append
theorem dS_size (a : Nat) (ha : a < 1000) : (dS a).size ≤ 3 := by
  have h : (decDigits a).length ≤ 3 := by
    rcases (show a < 10 ∨ (¬ a < 10 ∧ a < 100) ∨ 100 ≤ a by omega) with h1 | ⟨h1, h2⟩ | h1
    · rw [decDigits_one h1]; exact (by decide : 1 ≤ 3)
    · rw [decDigits_two h1 h2]; exact Nat.le_succ _
    · rw [dec_three h1 ha]; exact Nat.le_refl _
  show (List.toArray (decDigits a)).size ≤ 3
  rw [List.size_toArray]; exact h
set_option maxRecDepth 100000 in
set_option maxHeartbeats 800000 in
theorem writeStage_any (a0 a1 a2 a3 a4 a5 : Nat) (ha : ∀ a ∈ [a0, a1, a2, a3, a4, a5], a < 1000) (m : Int) (w : World) (h : Env m w) :
    Calls Tryz.prog 171 #[.iface 218 (.agg #[.int .i64 a0, .int .i64 a1, .int .i64 a2, .int .i64 a3, .int .i64 a4, .int .i64 a5])] w fun e w' => e = .returned (.string (lineS wStage ([a0, a1, a2, a3, a4, a5].map dS))) ∧ Below w.heap.size w w' := by
  have hm : ∀ w, (method 425 218 (.agg #[.int .i64 a0, .int .i64 a1, .int .i64 a2, .int .i64 a3, .int .i64 a4, .int .i64 a5]) "kelir/outline.words").run Tryz.prog w = .ok (277, .agg #[.int .i64 a0, .int .i64 a1, .int .i64 a2, .int .i64 a3, .int .i64 a4, .int .i64 a5]) w := fun _ => by kernel_rfl
  have hW := fun wx hx => stageWords_any a0 a1 a2 a3 a4 a5 (fun a h => by have := ha a h; omega) m wx hx
  have hds : ∀ x ∈ [a0, a1, a2, a3, a4, a5].map dS, x.size ≤ 3 := fun x hx => by
    obtain ⟨a, ha', rfl⟩ := List.mem_map.1 hx
    exact dS_size a (ha a ha')
  obtain ⟨ds, hd⟩ : ∃ ds, ds = [a0, a1, a2, a3, a4, a5].map dS := ⟨_, rfl⟩
  have hdl : ds.length = 6 := by rw [hd]; rfl
  rw [← hd] at hds ⊢
  rw [← hd] at hW
  have hjs := jnS_size ds ⟨#[32]⟩ 3 hds
  have hjz : (jnS ds ⟨#[32]⟩).size ≤ 100 := by rw [hdl] at hjs; exact Nat.le_trans hjs (by decide)
  have HDS := Lib.hid hds; have HW := Lib.hid hW
  have HJ := Lib.hid (rfl : jnS ds ⟨#[32]⟩ = jnS ds ⟨#[32]⟩)
  clear hds hW hd hdl hjs ha HJ
  have hfin : lineS wStage ds = wStage ++ ⟨#[32]⟩ ++ jnS ds ⟨#[32]⟩ := rfl
  have HF := Lib.hid hfin; clear hfin
  have hjoin := fun (A : Option Addr) (c : Nat) (wx : World) hc hr => jn_any A 6 c ds ⟨#[32]⟩ wx (by omega) (by omega) hc (fun x hx => by have := HDS.out x hx; omega) (by decide) hr
  generalize jnS ds ⟨#[32]⟩ = J at *
  have hno : ¬ 9223372036854775807 < 6 + J.size := by omega
  have HJN := Lib.hid hjoin; clear hjoin
  go_enter Tryz.func171, Tryz.ntmps171
  go_wp2_with (first
    | (go_at_call 195; refine (kindOf_stage _ _ _ _ _ _ _).mono ?_; rintro e w1 ⟨rfl, rfl⟩)
    | (go_at_call 196; refine (word_stage _).mono ?_; rintro e w1 ⟨rfl, rfl⟩)
    | (go_at_call 277; refine (HW.out _ h).mono ?_; rintro e w1 ⟨v1, rfl, own1, hb1⟩; obtain ⟨A1, c1, rfl⟩ := own_slice own1; have hc1 := own_le0 own1; have hr1 := Rd.of_own own1; clear own1)
    | (go_at_call 161; refine (HJN.out A1 c1 _ hc1 hr1).mono ?_; rintro e w2 ⟨rfl, hb2⟩))
  go_ret
  exact ⟨by rw [HF.out]; rfl, hb1.trans (hb2.mono hb1.size)⟩
set_option maxRecDepth 100000 in
set_option maxHeartbeats 800000 in
theorem writeFigure_any (A : Option Addr) (n cap : Nat) (rows : List ByteArray) (w : World) (hn : 1 ≤ n) (hn2 : n ≤ 1000) (hs : ∀ r ∈ rows, r.size ≤ 1000) (hr : Rd w w.heap.size 1 A n (rows.map Value.string)) :
    Calls Tryz.prog 171 #[.iface 220 (.agg #[.slice A n cap])] w fun e w' => e = .returned (.string (lineS wFigure rows)) ∧ Below w.heap.size w w' := by
  have hm : ∀ w, (method 425 220 (.agg #[.slice A n cap]) "kelir/outline.words").run Tryz.prog w = .ok (278, .agg #[.slice A n cap]) w := fun _ => by kernel_rfl
  have hlen := hr.1
  rw [List.length_map, Nat.mul_one] at hlen
  have hjs := jnS_size rows ⟨#[32]⟩ 1000 hs
  have hjz : (jnS rows ⟨#[32]⟩).size ≤ 1001000 := by
    rw [hlen] at hjs
    exact Nat.le_trans hjs (Nat.mul_le_mul hn2 (show 1000 + ByteArray.size ⟨#[32]⟩ ≤ 1001 by decide))
  have hfin : lineS wFigure rows = wFigure ++ ⟨#[32]⟩ ++ jnS rows ⟨#[32]⟩ := rfl
  have HF := Lib.hid hfin; have HL := Lib.hid hlen; clear hfin hjs hlen
  have hjoin := fun (A : Option Addr) (c : Nat) (wx : World) hc hr => jn_any A n c rows ⟨#[32]⟩ wx hn hn2 hc (fun x hx => by have := hs x hx; omega) (by decide) hr
  generalize jnS rows ⟨#[32]⟩ = J at *
  have hno : ¬ 9223372036854775807 < 7 + J.size := by omega
  have HJN := Lib.hid hjoin; clear hjoin
  go_enter Tryz.func171, Tryz.ntmps171
  go_wp2_with (first
    | (go_at_call 195; refine (kindOf_figure _ _).mono ?_; rintro e w1 ⟨rfl, rfl⟩)
    | (go_at_call 196; refine (word_figure _).mono ?_; rintro e w1 ⟨rfl, rfl⟩)
    | (go_at_call 278; refine (figureWords_any A n cap rows _ hn (by omega) hr).mono ?_; rintro e w1 ⟨v1, rfl, own1, hb1⟩; obtain ⟨A1, c1, rfl⟩ := own_slice own1; have hc1 := own_le0 own1; have hr1 := Rd.of_own own1; clear own1)
    | (go_at_call 161; refine (HJN.out A1 c1 _ hc1 hr1).mono ?_; rintro e w2 ⟨rfl, hb2⟩))
  go_ret
  exact ⟨by rw [HF.out]; rfl, hb1.trans (hb2.mono hb1.size)⟩
set_option maxRecDepth 100000 in
set_option maxHeartbeats 800000 in
theorem writeEnd_any (n : Nat) (hn : n < 1000) (m : Int) (w : World) (h : Env m w) : Calls Tryz.prog 171 #[.iface 252 (.agg #[.int .i64 n])] w fun e w' => e = .returned (.string (lineS wEnd [dgt3 n])) ∧ Below w.heap.size w w' := by
  have hm : ∀ w, (method 425 252 (.agg #[.int .i64 n]) "kelir/outline.words").run Tryz.prog w = .ok (280, .agg #[.int .i64 n]) w := fun _ => by kernel_rfl
  have hd3 : (dgt3 n).size = 3 := rfl
  have hjs := jnS_size [dgt3 n] ⟨#[32]⟩ 3 (fun x hx => by obtain rfl : x = dgt3 n := (by simpa using hx); rw [hd3]; exact Nat.le_refl _)
  have hjz : (jnS [dgt3 n] ⟨#[32]⟩).size ≤ 100 := Nat.le_trans hjs (show 1 * (3 + 1) ≤ 100 by decide)
  have hfin : lineS wEnd [dgt3 n] = wEnd ++ ⟨#[32]⟩ ++ jnS [dgt3 n] ⟨#[32]⟩ := rfl
  have HF := Lib.hid hfin; clear hfin hjs
  have hjoin := fun (A : Option Addr) (c : Nat) (wx : World) hc hr => jn_any A 1 c [dgt3 n] ⟨#[32]⟩ wx (by omega) (by omega) hc (fun x hx => by obtain rfl : x = dgt3 n := (by simpa using hx); rw [hd3]; omega) (by decide) hr
  generalize jnS [dgt3 n] ⟨#[32]⟩ = J at *
  have hno : ¬ 9223372036854775807 < 4 + J.size := by omega
  have HJN := Lib.hid hjoin; clear hjoin hd3
  go_enter Tryz.func171, Tryz.ntmps171
  go_wp2_with (first
    | (go_at_call 195; refine (kindOf_end _ _).mono ?_; rintro e w1 ⟨rfl, rfl⟩)
    | (go_at_call 196; refine (word_end _).mono ?_; rintro e w1 ⟨rfl, rfl⟩)
    | (go_at_call 280; refine (endWords_any n hn m _ h).mono ?_; rintro e w1 ⟨v1, rfl, own1, hb1⟩; obtain ⟨A1, c1, rfl⟩ := own_slice own1; have hc1 := own_le0 own1; have hr1 := Rd.of_own own1; clear own1)
    | (go_at_call 161; refine (HJN.out A1 c1 _ hc1 hr1).mono ?_; rintro e w2 ⟨rfl, hb2⟩))
  go_ret
  exact ⟨by rw [HF.out]; rfl, hb1.trans (hb2.mono hb1.size)⟩
set_option maxRecDepth 100000 in
theorem endOf_any (A : Option Addr) (n cap : Nat) (rs : List ByteArray) (s : Nat) (m : Int) (w : World) (hn : n ≤ 100000) (hs : ∀ r ∈ rs, r.size ≤ 100000) (hr : Rd w w.heap.size 1 A n (rs.map Value.string)) (hsum : sumA rs 0 0 = s) (h : Env m w) :
    Calls Tryz.prog 172 #[.slice A n cap] w fun e w' => e = .returned (.string (lineS wEnd [dgt3 (s % 173)])) ∧ Below w.heap.size w w' := by
  have hmod : (s : Int).tmod 173 = ((s % 173 : Nat) : Int) := rfl
  have hlt : s % 173 < 1000 := by have := Nat.mod_lt s (show 0 < 173 by omega); omega
  have hS := fun wx hx => sum_any A n cap rs wx hn hs hx
  rw [hsum] at hS
  have HS := Lib.hid hS; clear hS hsum
  generalize s % 173 = q at *
  go_enter Tryz.func172, Tryz.ntmps172
  go_wp2_with (first
    | (go_at_call 197; refine (HS.out _ hr).mono ?_; rintro e w1 ⟨rfl, rfl⟩)
    | (go_at_call 171; refine (writeEnd_any q hlt m _ h).mono ?_; rintro e w1 ⟨rfl, hb1⟩))
  go_ret
  exact ⟨rfl, hb1⟩
end Go.Proofs.YtifddfchpknkbaaGreatDoor
