import Derived.Test.YtifddfchpknkbaaGreatDoorV1
import Derived.Test.YtifddfchpknkbaaGreatDoorJp
import Derived.Test.YtifddfchpknkbaaGreatDoorK
import Derived.Lib.LaidTab
import Derived.MakeChecks
set_option linter.unusedVariables false
set_option linter.unusedSimpArgs false
namespace Go.Proofs.YtifddfchpknkbaaGreatDoor
open Go.ChangeShapes Go.WideShapes Go.ChangeAt Go.RowKit Go.Deep Go.Lib

theorem laid_tail {P : Program} {W : World} {a : String × DataW Unit} {l : List (String × DataW Unit)} (h : laidMet P (a :: l) W) : laidMet P l W := by
  obtain ⟨n, d⟩ := a
  obtain ⟨ps, hl, hnd, hrows⟩ := h
  obtain ⟨g, t, cs, fuel, p, q, _, _, _, _, hr, rfl⟩ := hl
  exact ⟨q, hr, hnd.sublist (List.sublist_append_right _ _), fun b off hp => hrows b off (List.mem_append_right _ hp)⟩
/-- A law whose condition on the tables that are laid is used. -/
theorem law_lifted_laid {C : Checked} {f : FuncId} {fn : Func} {s : ChangeSpec} {laid : List (String × DataW Unit)} {tb : TypeId} {os : Os} (started : os.Started) {H : Type} {enc : TypeId × Value → H}
    (own : ownKnob C.prog.godebug = none) (noInit : C.prog.inits.idxOf? f = none) (hfn : C.prog.funcs[f]? = some fn) (hl : laidOutB C.prog = true) (hrows : RowsOk C.prog fn.params.toList)
    (hvars : s.vars = []) (hbool : C.prog.underlying tb = some .bool) (hres : fn.resultTypes = #[tb])
    (hspec : ∀ ds : List (DataW H), ds.length = fn.params.size → s.fn H ds = { results := [.lit (.bool true)], args := ds })
    (witness : ∃ (w : World) (tape : Tape) (i : Input), w.os = os ∧ (w.forCall tape i).Shaped C.prog ∧ i.vars = [] ∧ Input.okWide C.prog (w.forCall tape i) .any w.heap.size f i ∧
      ((s.pre enc C.prog fn [] false (w.forCall tape i).memory i.args ∧ laidMetH C.prog laid (w.forCall tape i).memory) ∧ sizedMet enc C.prog fn (OpenSpec.ofChange s) false (w.forCall tape i).memory i.args) ∧ ({} : Assume).holds C.prog (lone (Frame.enter C.prog f i.args .normal) [] (w.forCall tape i)))
    (contract : ∀ (W : World) (base : Nat) (args : Array Value) (ds : List (DataW H)) (p : List MemPlace), (∀ (j : Nat) t v, fn.params[j]? = some t → args[j]? = some v → Value.okWide C.prog W .any base t v) →
      DataW.TrodAll enc C.prog W 0 (fun _ => true) true fn.params.toList args.toList ds p → W.ShapedOpen C.prog → (∃ W0 : World, W0.heap = W.heap ∧ laidMetH C.prog laid W0) → Calls C.prog f args W fun e W' => e = .returned (.bool true) ∧ Below W.heap.size W W') :
    ReturnsInHanded {} C os f .any (fun w args => (s.pre enc C.prog fn [] false w args ∧ laidMetH C.prog laid w) ∧ sizedMet enc C.prog fn (OpenSpec.ofChange s) false w args) (s.post enc C.prog fn false true false false) := by
  refine returnsInHanded_of_calls own started noInit witness ?_
  intro w tape i _ hsh _ hok hpre _
  obtain ⟨_, _, _, fn', hfn', _, _, _, _, hval⟩ := hok
  obtain rfl : fn' = fn := Option.some.inj (hfn'.symm.trans hfn)
  obtain ⟨⟨⟨ds, gs, before, hw, _⟩, hlaid⟩, _⟩ := hpre
  have hw' := DataW.Whole.of_heap (w' := w.forCall tape i) (by rfl) hw
  have hW := hw'
  obtain ⟨p, q, hA, hV, hbef, _, _⟩ := hw'
  rw [hvars] at hV
  obtain ⟨rfl, rfl⟩ := trodVars_none hV
  refine (contract (w.forCall tape i) w.heap.size i.args ds p hval hA hsh ⟨(w.forCall tape i).memory, rfl, hlaid⟩).mono fun e W' ⟨he, hb⟩ => ?_
  subst he
  have hlt : ∀ x ∈ p, x.block < (w.forCall tape i).heap.size := fun x hx => hW.lt x (by rw [hbef]; simp [hx])
  have hlen : ds.length = fn'.params.size := by
    have : ∀ {ts : List TypeId} {vs : List Value} {xs : List (DataW H)} {ps : List MemPlace}, DataW.TrodAll enc C.prog (w.forCall tape i) 0 (fun _ => true) true ts vs xs ps → xs.length = ts.length := by
      intro ts
      induction ts with
      | nil => intro vs xs ps h; obtain ⟨rfl, rfl, rfl⟩ := trodAll_nil h; rfl
      | cons t ts ih => intro vs xs ps h; obtain ⟨v, vs', d, ds', p, q, rfl, rfl, rfl, hd, hrest⟩ := trodAll_cons h; simp [ih hrest]
    simpa using this hA
  have hsp := hspec ds hlen
  refine ChangeSpec.post_blind (v := .bool true) ⟨ds, [], before, [], p, [], hW, ?_, ?_, ?_, hb.frame _, fun h => by cases h⟩
  · rw [List.append_nil, hsp, hres]; exact trodAll_mk1 (shut_bool hbool _)
  · rw [List.append_nil, hsp]; exact below_all hl hb hrows hA hlt
  · rw [List.append_nil, hsp, hvars]; rfl
theorem tabIs_heap {P : Program} {W W0 : World} {name : String} {k : IntKind} {zs : List Int} (h : TabIs P W0 name k zs) (he : W0.heap = W.heap) : TabIs P W name k zs := by
  unfold TabIs World.var? at h ⊢
  rw [← he]; exact h
section
variable {H : Type} {enc : TypeId × Value → H} {P : Program} {w : World} {base : Nat} {spare : Nat → Bool} {held : Bool} {r : Reach} {b0 : Nat} {v : Value} {d : DataW H} {p : List MemPlace}
/-- A struct of a struct of numbers and a slice of figures, that came in. -/
theorem book_in {t s e f tr st : TypeId} {k : Nat} {f0 f1 g0 : Field} (ht : P.underlying t = some (.struct #[f0, f1])) (hC : P.cellsOf t = k + 1) (h0 : f0.offset = 0) (h1 : f1.offset = k) (t0 : f0.type = s) (t1 : f1.type = e) (hc1 : P.cellsOf e = 1)
    (ha : AllInt enc P w base spare held s k) (he : P.underlying e = some (.slice f)) (hf : P.underlying f = some (.struct #[g0])) (hcf : P.cellsOf f = 1) (hone : oneCellFields P #[g0] = true) (hg0 : g0.type = tr) (hr : P.underlying tr = some (.slice st)) (hs : P.underlying st = some .string) (hcs : P.cellsOf st = 1)
    (hv : Value.okWide P w r b0 t v) (h : DataW.Trod enc P w base spare held t v d p) : ∃ (ns : List Int) (c : Value), ns.length = k ∧ v = .agg (ns.map (Value.int .i64) ++ [c]).toArray ∧ FigsIn w c := by
  obtain ⟨cs, rfl, hsz⟩ := okWide_struct ht hv
  rw [hC] at hsz
  obtain ⟨fuel, hfu⟩ := h
  obtain ⟨y0, y1, m, _, hl, hy0, hy1⟩ := trod_struct2 ht hfu
  rw [h0, t0, List.drop_zero, ha.1] at hy0
  obtain ⟨ns, hns, hk⟩ := ha.2 _ _ _ rfl hy0
  rw [h1, t1, hc1] at hy1
  simp only [Value.cells] at hk hy1
  have hlen : cs.toList.length = k + 1 := by simpa using hsz
  obtain ⟨c, hc⟩ : ∃ c, cs.toList.drop k = [c] := by
    match hd : cs.toList.drop k with
    | [] => have := congrArg List.length hd; simp [hlen] at this
    | [c] => exact ⟨c, rfl⟩
    | _ :: _ :: _ => have := congrArg List.length hd; simp [hlen] at this
  rw [hc] at hy1
  refine ⟨ns, c, hns, ?_, figs_in he hf hcf hone hg0 hr hs hcs (by simpa using hy1)⟩
  have : cs.toList = ns.map (Value.int .i64) ++ [c] := by
    rw [← List.take_append_drop k cs.toList, hk, hc]
  rw [← this]
end
end Go.Proofs.YtifddfchpknkbaaGreatDoor
