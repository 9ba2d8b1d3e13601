import Derived.Test.YtifddfchpknkbaaGreatDoorLawB
import Derived.Test.YtifddfchpknkbaaGreatDoorRows
import Derived.Test.YtifddfchpknkbaaGreatDoorVh
set_option linter.unusedVariables false
set_option linter.unusedSimpArgs false
set_option maxRecDepth 100000
namespace Go.Proofs.YtifddfchpknkbaaGreatDoor
open Go.ChangeShapes Go.WideShapes Go.ChangeAt Go.RowKit Go.Deep Go.Lib
section
variable {H : Type} {enc : TypeId × Value → H} {w : World} {base : Nat} {spare : Nat → Bool} {held : Bool} {r : Reach} {b0 : Nat} {v : Value} {d : DataW H} {p : List MemPlace}
theorem law_all23 : AllInt enc Tryz.prog w base spare held 23 6 := allInt_struct [1, 1, 1, 1, 1, 1] Tryz.underlying23 (by kernel_rfl) rfl (fun i f k hf hk => by
  match i, hf, hk with
  | 0, hf, hk => cases hf; cases hk; exact ⟨rfl, law_all3⟩
  | 1, hf, hk => cases hf; cases hk; exact ⟨rfl, law_all3⟩
  | 2, hf, hk => cases hf; cases hk; exact ⟨rfl, law_all3⟩
  | 3, hf, hk => cases hf; cases hk; exact ⟨rfl, law_all3⟩
  | 4, hf, hk => cases hf; cases hk; exact ⟨rfl, law_all3⟩
  | 5, hf, hk => cases hf; cases hk; exact ⟨rfl, law_all3⟩
  | i + 6, hf, hk => simp at hf)
theorem law_book (hv : Value.okWide Tryz.prog w r b0 121 v) (h : DataW.Trod enc Tryz.prog w base spare held 121 v d p) : ∃ (a b c d e f : Int) (A : Option Addr) (n cap : Nat) (fs : List Fig), v = .agg #[.int .i64 a, .int .i64 b, .int .i64 c, .int .i64 d, .int .i64 e, .int .i64 f, .slice A n cap] ∧ n ≤ cap ∧ cap ≤ maxLen ∧ (∀ f ∈ fs, f.ok w w.heap.size) ∧ Rd w w.heap.size 1 A n (fs.map Fig.val) := by
  obtain ⟨ns, c, hl, rfl, A, n, cap, fs, rfl, h1, h2, h3, h4⟩ := book_in Tryz.underlying121 (by kernel_rfl) rfl rfl rfl rfl (by kernel_rfl) law_all23 Tryz.underlying51 Tryz.underlying26 (by kernel_rfl) (by kernel_rfl) rfl Tryz.underlying24 Tryz.underlying9 (by kernel_rfl) hv h
  match ns, hl with
  | [a, b, c, d, e, f], _ => exact ⟨a, b, c, d, e, f, A, n, cap, fs, rfl, h1, h2, h3, h4⟩
end
theorem law_pow10 : Rows.laid_internal_strconv_uint64pow10 = (tabData .u64 pow10Tab : DataW Unit) := by kernel_rfl
theorem law_tab {W : World} {rest : List (String × DataW Unit)} (h : laidMet Tryz.prog (("internal/strconv.uint64pow10", Rows.laid_internal_strconv_uint64pow10) :: rest) W) : TabIs Tryz.prog W "internal/strconv.uint64pow10" .u64 pow10Tab := by
  rw [law_pow10] at h
  exact tabIs_of_head (g := 3) (t := 309) (by kernel_rfl) (by kernel_rfl) Tryz.underlying309 (by kernel_rfl) (by kernel_rfl) (by kernel_rfl) h
end Go.Proofs.YtifddfchpknkbaaGreatDoor
