import Derived.Test.YtekmnelpkogppaaGreatDoorProg
import Derived.Test.YtekmnelpkogppaaGreatDoorKy1
import Derived.Test.YtekmnelpkogppaaGreatDoorKy3
import Derived.Test.YtekmnelpkogppaaGreatDoorKy4
set_option linter.unusedVariables false
set_option linter.unusedSimpArgs false
set_option maxRecDepth 100000
set_option maxHeartbeats 40000000
namespace Go.Proofs.YtekmnelpkogppaaGreatDoor
section
open Go.RowKit Go.Lib Go.Maps Go.Shelf
attribute [local go_sem] Oper.semAt_some
def liesB (one other x : ByteArray) : Bool := decide ((edB one x : Int) + (edB x other : Int) = (edB one other : Int))
def betweenL (wn : Nat) (one other : ByteArray) : List ByteArray := (allLn wn).filter (liesB one other)
theorem edB_le8 (p q : ByteArray) (hp : p.size ≤ 4) (hq : q.size ≤ 4) : edB p q ≤ 8 := by
 have h := ed_le p.data.toList q.data.toList
 have h1 : p.data.toList.length = p.size := rfl
 have h2 : q.data.toList.length = q.size := rfl
 unfold edB; omega
theorem between_any (wn : Nat) (one other : ByteArray) (mb N' : Nat) (w : World) (hw3 : wn ≤ 3) (h1s : one.size ≤ 4) (h2s : other.size ≤ 4) (hm : Memo w mb N') (hN : N' + 1000 * KK 8 ≤ maxLen) :
  Calls Tryz.prog 88 #[.map (some mb), .agg #[.string one, .string other], .int .i64 (wn : Int)] w fun e w' => ∃ v, e = .returned v ∧ w'.ownsRow w.heap.size 121 1 v (betweenL wn one other).length ((betweenL wn one other).map Value.string) ∧ Memo w' mb (N' + 605 * KK 8) ∧ GB w.heap.size mb w w' := by
 obtain ⟨i121, hi, hz0, hz1', hz2'⟩ := info_parts info121
 have hmb := hm.lt
 have hch := fun (a b : ByteArray) (wx : World) (N1 : Nat) (hs : a.size ≤ 4 ∧ b.size ≤ 4) (hmx : Memo wx mb N1) (hN1 : N1 + KK 8 ≤ maxLen) => changes_any 8 a b mb N1 wx (by omega) (by omega) (by omega) hmx hN1
 obtain ⟨K, hK⟩ : ∃ K, K = KK 8 := ⟨_, rfl⟩
 rw [← hK] at hN ⊢
 simp only [← hK] at hch
 obtain ⟨K5, hK5⟩ : ∃ K5, K5 = 5 * K := ⟨_, rfl⟩
 have HK5 := Lib.hid hK5
 have HCH := Lib.hid hch
 clear hch hK
 have hle := allLn_le hw3
 refine (callsIn_wide (n := 9)).1 ?_
 refine callsIn_of_wp_marks Tryz.func88 rfl trivial ?_ rfl
 simp only [Tryz.ntmps88, List.size_toArray, List.length_cons, List.length_nil, Nat.reduceAdd, Nat.reduceSub, Array.replicate_succ, Array.replicate_zero, List.push_toArray, List.append_toArray, List.nil_append, List.cons_append]
 clear hK5
 gi_wp2_with (refine ⟨trivial, (callsIn_wide.2 (lines_any (wn : Int) _)).mono ?_⟩; rintro e w' ⟨rfl, rfl⟩)
 obtain ⟨W0, hW0⟩ : ∃ W0 : World, W0 = (((w.alloc (.cells #[.map (some mb)] 119)).alloc (.cells #[.string one, .string other] 124)).alloc (.cells #[.slice none 0 0] 128)).alloc (.cells #[.int .i64 (wn : Int)] 3) := ⟨_, rfl⟩
 have hX := (((Blk.new w 119 #[.map (some mb)]).alloc (.cells #[.string one, .string other] 124)).alloc (.cells #[.slice none 0 0] 128)).alloc (.cells #[.int .i64 (wn : Int)] 3)
 have hP := ((blk2_1 w (.cells #[.map (some mb)] 119) 124 #[.string one, .string other]).alloc (.cells #[.slice none 0 0] 128)).alloc (.cells #[.int .i64 (wn : Int)] 3)
 have hV := (Blk.new ((w.alloc (.cells #[.map (some mb)] 119)).alloc (.cells #[.string one, .string other] 124)) 128 #[.slice none 0 0]).alloc (.cells #[.int .i64 (wn : Int)] 3)
 have hWb := Blk.new (((w.alloc (.cells #[.map (some mb)] 119)).alloc (.cells #[.string one, .string other] 124)).alloc (.cells #[.slice none 0 0] 128)) 3 #[.int .i64 (wn : Int)]
 have hsz : W0.heap.size = w.heap.size + 1 + 1 + 1 + 1 := by rw [hW0]; simp only [World.size_alloc]
 have hG : GB w.heap.size mb w W0 := by rw [hW0]; exact ((((GB.refl _ _ _).alloc (Nat.le_refl _) _).alloc (by simp only [World.size_alloc]; omega) _).alloc (by simp only [World.size_alloc]; omega) _).alloc (by simp only [World.size_alloc]; omega) _
 have hm0 : Memo W0 mb N' := by rw [hW0]; exact (((hm.alloc _).alloc _).alloc _).alloc _
 rw [show (((w.alloc (.cells #[.map (some mb)] 119)).alloc (.cells #[.string one, .string other] 124)).alloc (.cells #[.slice none 0 0] 128)).heap.size = w.heap.size + 1 + 1 + 1 by simp only [World.size_alloc]] at hWb
 rw [show ((w.alloc (.cells #[.map (some mb)] 119)).alloc (.cells #[.string one, .string other] 124)).heap.size = w.heap.size + 1 + 1 by simp only [World.size_alloc]] at hV
 rw [← hW0] at hX hP hV hWb
 rw [← hW0]
 clear hW0 hm
 have HSZ := Lib.hid hsz; clear hsz
 refine wpIn_rangeO (F := Fence.wide) (n := 9) (w0 := W0) (Pre := fun ys => ys <+: allLn wn) (S := fun ys => ys = allLn wn) (O0 := fun k => k = w.heap.size + 1 + 1 + 1) (Good := fun _ _ _ => True) (encs := fun s : ByteArray => #[.string s]) rfl (by omega) (gf := 175) (lb := #[.pointer (some ⟨w.heap.size + 1 + 1 + 1, 0, none⟩)]) rfl trivial (enters_of Tryz.func175 (by kernel_rfl) rfl)
  (fun k h => by have := HSZ.out; omega) (lines_seq wn (w.heap.size + 1 + 1 + 1) _ hw3 W0 hWb) (Below.refl _ _) (fun _ => rfl)
  (fun (pre : List ByteArray) O Z => ∃ v, Blk Z (w.heap.size + 1 + 1) 128 #[v] ∧ Blk Z w.heap.size 119 #[.map (some mb)] ∧ Blk Z (w.heap.size + 1) 124 #[.string one, .string other] ∧ Z.ownsRow w.heap.size 121 1 v (pre.filter (liesB one other)).length ((pre.filter (liesB one other)).map Value.string) ∧ Memo Z mb (N' + pre.length * K5) ∧ GB w.heap.size mb w Z ∧ OIn (w.heap.size + 1 + 1 + 1) O Z ∧ Apart O v)
  (fun _ _ _ _ => False)
  ?hI (fun _ _ _ _ _ _ h => h.elim) ?h0 ?hround ?hdone (fun _ _ _ _ _ _ _ h => h.elim)
 case hI =>
  rintro s O O' P0 Q0 ⟨v, h1, h2, hp, h3, h4, h5, h6, h7⟩ ho hO'
  exact ⟨v, ho.blk h1 (fun h => by have := h6.1 _ h; omega), ho.blk h2 (fun h => by have := h6.1 _ h; omega), ho.blk hp (fun h => by have := h6.1 _ h; omega), ho.own h3 h7, ho.memo h4 (fun h => by have := h6.1 _ h; omega), Off.gb h5 ho (fun k h => by have := h6.1 _ h; omega) (by have := h6.2.2; omega), h6.off ho hO', h7.off h3 hO'⟩
 case h0 =>
  intro W3 hb3 hs3
  have hs := HSZ.out
  refine ⟨_, hV.below hb3 hV.lt, hX.below hb3 hX.lt, hP.below hb3 hP.lt, World.ownsRow_nil _ _ _ _, ?_, hG.trans (GB.of_below (hb3.mono (by omega))), ⟨?_, ?_, by omega⟩, fun g h => by cases h⟩
  ·rw [List.length_nil, Nat.zero_mul, Nat.add_zero]; exact hm0.below hb3
  ·intro k h; omega
  ·intro k h; omega
 case hround =>
  rintro l' pre x O W0' W1' K1 hOl ⟨v, h1, h2, hp, h3, h4, h5, h6, h7⟩ ho _ hpr hK1
  simp only [List.zip_toArray, List.zip_cons_cons, List.zip_nil_right, List.foldl_toArray', List.foldl_toArray, List.foldl_cons, List.foldl_nil, List.setIfInBounds_toArray, List.set_cons_succ, List.set_cons_zero, List.size_toArray, List.length_cons, List.length_nil]
  gi_wp2
  refine hK1 _ _ (Held.refl _ _) (fun W2 ho2 hsz2 => ?_)
  have hxs : x.size ≤ 4 := (allLn_mem (hpr.mem (List.mem_append_right _ (List.mem_singleton_self x)))).1
  have hjl : pre.length + 1 ≤ 121 := by have := hpr.length_le; simp at this; omega
  have hfl : (pre.filter (liesB one other)).length ≤ pre.length := List.length_filter_le _ _
  have hoo := ho.trans ho2
  have hV := hoo.blk h1 (fun h => by have := h6.1 _ h; omega)
  have hX := hoo.blk h2 (fun h => by have := h6.1 _ h; omega)
  have hP := hoo.blk hp (fun h => by have := h6.1 _ h; omega)
  have hown := hoo.own h3 h7
  have hm := hoo.memo h4 (fun h => by have := h6.1 _ h; omega)
  have hG := Off.gb h5 hoo (fun k h => by have := h6.1 _ h; omega) (by have := h6.2.2; omega)
  have hOI := h6.off hoo (O' := O) (fun k h => .inl h)
  have hOm : ¬ O mb := fun h => by have := h6.1 _ h; omega
  have hOv : ¬ O (w.heap.size + 1 + 1) := fun h => by have := h6.1 _ h; omega
  have HOI := Lib.hid hOI; have HAP := Lib.hid h7; have HSZX := Lib.hid (And.intro hxs (And.intro h1s h2s))
  have HMP : Hid ((pre ++ [x]).filter (liesB one other) = pre.filter (liesB one other) ++ if liesB one other x then [x] else []) := Lib.hid (by rw [List.filter_append]; congr 1; simp [List.filter_cons])
  have hlb : liesB one other x = decide ((edB one x : Int) + (edB x other : Int) = (edB one other : Int)) := rfl
  have hd1 := edB_le8 one x h1s hxs
  have hd2 := edB_le8 x other hxs h2s
  have hd3 := edB_le8 one other h1s h2s
  clear h1 h2 hp h3 h4 h5 h6 h7 ho ho2 hsz2 hoo hOI hK1 hpr hxs
  obtain ⟨va, vc, rfl⟩ := own_slice hown
  obtain ⟨j, hj⟩ : ∃ j, j = pre.length := ⟨_, rfl⟩
  obtain ⟨m, hm'⟩ : ∃ m, m = (pre.filter (liesB one other)).length := ⟨_, rfl⟩
  obtain ⟨ys, hys⟩ : ∃ ys, ys = (pre.filter (liesB one other)).map Value.string := ⟨_, rfl⟩
  rw [← hm', ← hys] at hown
  rw [← hm'] at hV HAP hfl
  rw [← hj] at hm hjl hfl
  have hmul : j * K5 ≤ 121 * K5 := Nat.mul_le_mul_right _ (by omega)
  have hsu : (j + 1) * K5 = j * K5 + K5 := Nat.succ_mul j K5
  have HNJ : Hid (N' + j * K5 + 5 * K ≤ maxLen) := Lib.hid (by have := HK5.out; omega)
  have HNJ2 : Hid (N' + j * K5 + K + K + K ≤ N' + (j + 1) * K5) := Lib.hid (by have := HK5.out; rw [hsu]; omega)
  have HJ := Lib.hid hj; have HYS := Lib.hid hys; have HM' := Lib.hid hm'
  have hml : mb < w.heap.size := hmb
  have hwa : IntKind.i64.wrap ((edB one x : Int) + (edB x other : Int)) = (edB one x : Int) + (edB x other : Int) := IntWalk.i64_in _ (by omega)
  have HWA := Lib.hid hwa
  clear hj hys hm' hmul hsu hwa
  by_cases hyes : (edB one x : Int) + (edB x other : Int) = (edB one other : Int)
  ·rw [decide_eq_true hyes] at hlb
   have HLB := Lib.hid hlb
   have hyb : (IntKind.i64.wrap ((edB one x : Int) + (edB x other : Int)) == (edB one other : Int)) = true := by rw [HWA.out, beq_iff_eq]; exact hyes
   clear hlb hyes
   gi_wp2
   refine wpIn_region_R (fun w' => Blk w' w.heap.size 119 #[.map (some mb)] ∧ Blk w' (w.heap.size + 1) 124 #[.string one, .string other]) 17 (by kernel_rfl) ?_
   have hheldD := Held.drew O W2; replace hX := hX.drew; replace hP := hP.drew; replace hV := hV.drew; replace hown := hown.drew; replace hm : Memo W2.drew mb (N' + j * K5) := hm; replace hG := hG.drew
   generalize W2.drew = WD at *
   have hTT : Blk WD w.heap.size 119 #[.map (some mb)] ∧ Blk WD (w.heap.size + 1) 124 #[.string one, .string other] := ⟨hX, hP⟩
   refine wpR_take (i := 0) (v := ?vy1_0) (fun _ => trivial) (by kernel_rfl) rfl (by kernel_rfl) (by kernel_rfl) (by kernel_rfl) rfl (fun _ _ _ h => h) (Or.inl ⟨by rfl, ?hyy1_0⟩) hTT ?resty1_0
   case hyy1_0 => intro wq hSw; have q0 := fun i => hSw.1.cell i; have q1 := fun i => hSw.2.cell i; go_simp <;> with_reducible rfl
   simp only [LS, Act.put]
   refine wpR_take (i := 1) (v := ?vy1_1) (fun _ => trivial) (by kernel_rfl) rfl (by kernel_rfl) (by kernel_rfl) (by kernel_rfl) rfl (fun _ _ _ h => h) (Or.inl ⟨by rfl, ?hyy1_1⟩) hTT ?resty1_1
   case hyy1_1 => intro wq hSw; have q0 := fun i => hSw.1.cell i; have q1 := fun i => hSw.2.cell i; go_simp <;> with_reducible rfl
   simp only [LS, Act.put]
   refine wpR_take (i := 2) (v := ?vy1_2) (fun _ => trivial) (by kernel_rfl) rfl (by kernel_rfl) (by kernel_rfl) (by kernel_rfl) rfl (fun _ _ _ h => h) (Or.inl ⟨by rfl, ?hyy1_2⟩) hTT ?resty1_2
   case hyy1_2 => intro wq hSw; have q0 := fun i => hSw.1.cell i; have q1 := fun i => hSw.2.cell i; go_simp <;> with_reducible rfl
   simp only [LS, Act.put]
   refine wpR_take (i := 3) (v := ?vy1_3) (fun _ => trivial) (by kernel_rfl) rfl (by kernel_rfl) (by kernel_rfl) (by kernel_rfl) rfl (fun _ _ _ h => h) (Or.inl ⟨by rfl, ?hyy1_3⟩) hTT ?resty1_3
   case hyy1_3 => intro wq hSw; have q0 := fun i => hSw.1.cell i; have q1 := fun i => hSw.2.cell i; go_simp <;> with_reducible rfl
   simp only [LS, Act.put]
   refine wpR_take (i := 4) (v := ?vy1_4) (fun _ => trivial) (by kernel_rfl) rfl (by kernel_rfl) (by kernel_rfl) (by kernel_rfl) rfl (fun _ _ _ h => h) (Or.inl ⟨by rfl, ?hyy1_4⟩) hTT ?resty1_4
   case hyy1_4 => intro wq hSw; have q0 := fun i => hSw.1.cell i; have q1 := fun i => hSw.2.cell i; go_simp <;> with_reducible rfl
   simp only [LS, Act.put]
   refine wpR_take (i := 6) (v := ?vy1_6) (fun _ => trivial) (by kernel_rfl) rfl (by kernel_rfl) (by kernel_rfl) (by kernel_rfl) rfl (fun _ _ _ h => h) (Or.inl ⟨by rfl, ?hyy1_6⟩) hTT ?resty1_6
   case hyy1_6 => intro wq hSw; have q0 := fun i => hSw.1.cell i; have q1 := fun i => hSw.2.cell i; go_simp <;> with_reducible rfl
   simp only [LS, Act.put]
   refine wpR_take (i := 7) (v := ?vy1_7) (fun _ => trivial) (by kernel_rfl) rfl (by kernel_rfl) (by kernel_rfl) (by kernel_rfl) rfl (fun _ _ _ h => h) (Or.inl ⟨by rfl, ?hyy1_7⟩) hTT ?resty1_7
   case hyy1_7 => intro wq hSw; have q0 := fun i => hSw.1.cell i; have q1 := fun i => hSw.2.cell i; go_simp <;> with_reducible rfl
   simp only [LS, Act.put]
   refine wpR_take (i := 8) (v := ?vy1_8) (fun _ => trivial) (by kernel_rfl) rfl (by kernel_rfl) (by kernel_rfl) (by kernel_rfl) rfl (fun _ _ _ h => h) (Or.inl ⟨by rfl, ?hyy1_8⟩) hTT ?resty1_8
   case hyy1_8 => intro wq hSw; have q0 := fun i => hSw.1.cell i; have q1 := fun i => hSw.2.cell i; go_simp <;> with_reducible rfl
   simp only [LS, Act.put]
   refine wpR_take (i := 9) (v := ?vy1_9) (fun _ => trivial) (by kernel_rfl) rfl (by kernel_rfl) (by kernel_rfl) (by kernel_rfl) rfl (fun _ _ _ h => h) (Or.inl ⟨by rfl, ?hyy1_9⟩) hTT ?resty1_9
   case hyy1_9 => intro wq hSw; have q0 := fun i => hSw.1.cell i; have q1 := fun i => hSw.2.cell i; go_simp <;> with_reducible rfl
   simp only [LS, Act.put]
   refine wpR_take (i := 10) (v := ?vy1_10) (fun _ => trivial) (by kernel_rfl) rfl (by kernel_rfl) (by kernel_rfl) (by kernel_rfl) rfl (fun _ _ _ h => h) (Or.inl ⟨by rfl, ?hyy1_10⟩) hTT ?resty1_10
   case hyy1_10 => intro wq hSw; have q0 := fun i => hSw.1.cell i; have q1 := fun i => hSw.2.cell i; go_simp <;> with_reducible rfl
   simp only [LS, Act.put]
   refine wpR_take (i := 13) (v := ?vy1_13) (fun _ => trivial) (by kernel_rfl) rfl (by kernel_rfl) (by kernel_rfl) (by kernel_rfl) rfl (fun _ _ _ h => h) (Or.inl ⟨by rfl, ?hyy1_13⟩) hTT ?resty1_13
   case hyy1_13 => intro wq hSw; have q0 := fun i => hSw.1.cell i; have q1 := fun i => hSw.2.cell i; go_simp <;> with_reducible rfl
   simp only [LS, Act.put]
   refine wpR_take (i := 14) (v := ?vy1_14) (fun _ => trivial) (by kernel_rfl) rfl (by kernel_rfl) (by kernel_rfl) (by kernel_rfl) rfl (fun _ _ _ h => h) (Or.inl ⟨by rfl, ?hyy1_14⟩) hTT ?resty1_14
   case hyy1_14 => intro wq hSw; have q0 := fun i => hSw.1.cell i; have q1 := fun i => hSw.2.cell i; go_simp <;> with_reducible rfl
   simp only [LS, Act.put]
   refine wpR_one (i := 5) (fun _ => trivial) rfl (by kernel_rfl) (fun K hK => ?_)
   go_simp
   refine ⟨trivial, (CallsIn.inRound l' (callsIn_wide.2 (HCH.out one x _ _ (by have := HSZX.out; omega) hm (by have := HNJ.out; omega)))).mono ?_⟩
   rintro e w1 ⟨rfl, hmw1, hg⟩
   have hhw1 : Held O W2 w1 := hheldD.trans (Held.of_gb hg hOm)
   replace hX := hX.gb hg (by omega); replace hP := hP.gb hg (by omega); replace hV := hV.gb hg (by omega); replace hown := own_gb hown hg hml; replace hG := hG.call hg hG.size
   replace hTT := And.intro hX hP
   clear hg
   refine hK _ _ (.inr hTT) ?_
   clear hK K
   try simp only [LS, Act.put]
   refine wpR_one (i := 11) (fun _ => trivial) rfl (by kernel_rfl) (fun K hK => ?_)
   go_simp
   refine ⟨trivial, (CallsIn.inRound l' (callsIn_wide.2 (HCH.out x other _ _ (by have := HSZX.out; omega) hmw1 (by have := HNJ.out; omega)))).mono ?_⟩
   rintro e w3 ⟨rfl, hmw3, hg⟩
   have hhw3 : Held O W2 w3 := hhw1.trans (Held.of_gb hg hOm)
   replace hX := hX.gb hg (by omega); replace hP := hP.gb hg (by omega); replace hV := hV.gb hg (by omega); replace hown := own_gb hown hg hml; replace hG := hG.call hg hG.size
   replace hTT := And.intro hX hP
   clear hg
   refine hK _ _ (.inr hTT) ?_
   clear hK K
   try simp only [LS, Act.put]
   refine wpR_take (i := 12) (v := ?vy1_12) (fun _ => trivial) (by kernel_rfl) rfl (by kernel_rfl) (by kernel_rfl) (by kernel_rfl) rfl (fun _ _ _ h => h) (Or.inl ⟨by rfl, ?hyy1_12⟩) hTT ?resty1_12
   case hyy1_12 => intro wq hSw; have q0 := fun i => hSw.1.cell i; have q1 := fun i => hSw.2.cell i; go_simp <;> with_reducible rfl
   simp only [LS, Act.put]
   refine wpR_one (i := 15) (fun _ => trivial) rfl (by kernel_rfl) (fun K hK => ?_)
   go_simp
   refine ⟨trivial, (CallsIn.inRound l' (callsIn_wide.2 (HCH.out one other _ _ (by have := HSZX.out; omega) hmw3 (by have := HNJ.out; omega)))).mono ?_⟩
   rintro e w4 ⟨rfl, hmw4, hg⟩
   have hhw4 : Held O W2 w4 := hhw3.trans (Held.of_gb hg hOm)
   replace hX := hX.gb hg (by omega); replace hP := hP.gb hg (by omega); replace hV := hV.gb hg (by omega); replace hown := own_gb hown hg hml; replace hG := hG.call hg hG.size
   replace hTT := And.intro hX hP
   clear hg
   refine hK _ _ (.inr hTT) ?_
   clear hK K
   try simp only [LS, Act.put]
   refine wpR_one (i := 16) (fun _ => trivial) rfl (by kernel_rfl) (fun K hK => ?_)
   go_simp
   refine hK _ _ (.inr hTT) ?_
   clear hK K
   try simp only [LS, Act.put]
   refine wpR_done (by kernel_rfl) ?_ _
   clear hTT
   have q1 := fun i => hV.cell i
   have hl1 := hV.lt
   have hfz := hV.frozen 0
   have hn3 := Blk.new w4 121 #[.string x]
   have hown5 := hown.alloc (.cells #[.string x] 121)
   have hV5 := hV.alloc (.cells #[.string x] 121)
   have hfz5 := fun (W : World) (h : Blk W (w.heap.size + 1 + 1) 128 #[.slice va m vc]) => h.frozen 0
   have hcv5 := fun (W : World) (h : Blk W (w.heap.size + 1 + 1) 128 #[.slice va m vc]) => h.cell 0
   gi_wp2_with (gi_at_builtin; refine wpListIn_append_any (fun _ => trivial) rfl _ _ 128 rfl _ w.heap.size 121 i121 (.string ⟨#[]⟩) 1 16 Tryz.underlying128 hi hz0 hz1' hz2' rfl (by decide) (.slice va m vc) m ys rfl hown5 (w4.heap.size + 1) (some ⟨w4.heap.size, 0, none⟩) 1 1 [.string x] rfl (Rd.blkN hn3 rfl (Nat.lt_succ_self _)).reads (by simp [Value.oneCell']) (by unfold maxLen; omega) (by omega) (by have := hG.size; rw [World.size_alloc]; omega) (fun v' w5 hown' hgrow hob => ?_); obtain ⟨va2, vc2, rfl⟩ := own_slice hown'; have hV6 := hV5.kept_own hown5 (by decide) hgrow; have hc6 := hcv5 _ hV6; have hf6 := hfz5 _ hV6; have hl6 := hV6.lt)
   have hX6 := (hX.alloc (.cells #[.string x] 121)).kept_own hown5 (by decide) hgrow
   have hP6 := (hP.alloc (.cells #[.string x] 121)).kept_own hown5 (by decide) hgrow
   have hm6 := (hmw4.alloc (.cells #[.string x] 121)).kept hgrow (fun e => by have := (hown5.lt mb e.symm).1; omega)
   have hG6 := GB.row (hG.alloc hG.size (.cells #[.string x] 121)) hgrow (by rw [World.size_alloc]; have := hG.size; omega) (fun k hk => (hown5.lt k hk).1)
   have hh5 : Held O W2 (w4.alloc (.cells #[.string x] 121)) := hhw4.trans (Held.alloc _ _ _)
   have hh6 : Held O W2 w5 := hh5.trans (Held.of_grown hgrow (fun k hk => HAP.out k hk))
   have hap2 : Apart O (.slice va2 (m + 1) vc2) := Apart.next HAP.out (HOI.out.held hh5).2.1 hob
   have own7 := hown'.kept (grownBy_setCell' w5 (w.heap.size + 1 + 1) (.slice va2 (m + 1) vc2)) (.inr (Boxed.not_row (t := 128) (u := .slice va m vc) hV6 (by decide) hown').symm)
   have kV : Blk (w5.setCell ⟨w.heap.size + 1 + 1, 0, none⟩ (.slice va2 (m + 1) vc2)) (w.heap.size + 1 + 1) 128 #[.slice va2 (m + 1) vc2] := by simpa using hV6.set_ 0 (.slice va2 (m + 1) vc2)
   have kX := hX6.far (p := ⟨w.heap.size + 1 + 1, 0, none⟩) (show w.heap.size ≠ w.heap.size + 1 + 1 by omega) (.slice va2 (m + 1) vc2)
   have kP := hP6.far (p := ⟨w.heap.size + 1 + 1, 0, none⟩) (show w.heap.size + 1 ≠ w.heap.size + 1 + 1 by omega) (.slice va2 (m + 1) vc2)
   have km := hm6.set (p := ⟨w.heap.size + 1 + 1, 0, none⟩) (show mb ≠ w.heap.size + 1 + 1 by omega) (.slice va2 (m + 1) vc2)
   have kG := hG6.setCell (p := ⟨w.heap.size + 1 + 1, 0, none⟩) (show w.heap.size ≤ w.heap.size + 1 + 1 by omega) (.slice va2 (m + 1) vc2)
   have kh := hh6.trans (Held.setCell (p := ⟨w.heap.size + 1 + 1, 0, none⟩) hOv (.slice va2 (m + 1) vc2))
   refine ⟨kh, .slice va2 (m + 1) vc2, kV, kX, kP, ?_, ?_, kG, HOI.out.held kh, hap2⟩
   ·rw [HMP.out, HLB.out, if_pos rfl, List.length_append, List.map_append, ← HM'.out, ← HYS.out]
    exact own7
   ·rw [List.length_append, ← HJ.out]; exact km.mono HNJ2.out
  ·rw [decide_eq_false hyes] at hlb
   have HLB := Lib.hid hlb
   have hyb : (IntKind.i64.wrap ((edB one x : Int) + (edB x other : Int)) == (edB one other : Int)) = false := by rw [HWA.out, beq_eq_false_iff_ne]; exact hyes
   clear hlb hyes
   gi_wp2
   refine wpIn_region_R (fun w' => Blk w' w.heap.size 119 #[.map (some mb)] ∧ Blk w' (w.heap.size + 1) 124 #[.string one, .string other]) 17 (by kernel_rfl) ?_
   have hheldD := Held.drew O W2; replace hX := hX.drew; replace hP := hP.drew; replace hV := hV.drew; replace hown := hown.drew; replace hm : Memo W2.drew mb (N' + j * K5) := hm; replace hG := hG.drew
   generalize W2.drew = WD at *
   have hTT : Blk WD w.heap.size 119 #[.map (some mb)] ∧ Blk WD (w.heap.size + 1) 124 #[.string one, .string other] := ⟨hX, hP⟩
   refine wpR_take (i := 0) (v := ?vy2_0) (fun _ => trivial) (by kernel_rfl) rfl (by kernel_rfl) (by kernel_rfl) (by kernel_rfl) rfl (fun _ _ _ h => h) (Or.inl ⟨by rfl, ?hyy2_0⟩) hTT ?resty2_0
   case hyy2_0 => intro wq hSw; have q0 := fun i => hSw.1.cell i; have q1 := fun i => hSw.2.cell i; go_simp <;> with_reducible rfl
   simp only [LS, Act.put]
   refine wpR_take (i := 1) (v := ?vy2_1) (fun _ => trivial) (by kernel_rfl) rfl (by kernel_rfl) (by kernel_rfl) (by kernel_rfl) rfl (fun _ _ _ h => h) (Or.inl ⟨by rfl, ?hyy2_1⟩) hTT ?resty2_1
   case hyy2_1 => intro wq hSw; have q0 := fun i => hSw.1.cell i; have q1 := fun i => hSw.2.cell i; go_simp <;> with_reducible rfl
   simp only [LS, Act.put]
   refine wpR_take (i := 2) (v := ?vy2_2) (fun _ => trivial) (by kernel_rfl) rfl (by kernel_rfl) (by kernel_rfl) (by kernel_rfl) rfl (fun _ _ _ h => h) (Or.inl ⟨by rfl, ?hyy2_2⟩) hTT ?resty2_2
   case hyy2_2 => intro wq hSw; have q0 := fun i => hSw.1.cell i; have q1 := fun i => hSw.2.cell i; go_simp <;> with_reducible rfl
   simp only [LS, Act.put]
   refine wpR_take (i := 3) (v := ?vy2_3) (fun _ => trivial) (by kernel_rfl) rfl (by kernel_rfl) (by kernel_rfl) (by kernel_rfl) rfl (fun _ _ _ h => h) (Or.inl ⟨by rfl, ?hyy2_3⟩) hTT ?resty2_3
   case hyy2_3 => intro wq hSw; have q0 := fun i => hSw.1.cell i; have q1 := fun i => hSw.2.cell i; go_simp <;> with_reducible rfl
   simp only [LS, Act.put]
   refine wpR_take (i := 4) (v := ?vy2_4) (fun _ => trivial) (by kernel_rfl) rfl (by kernel_rfl) (by kernel_rfl) (by kernel_rfl) rfl (fun _ _ _ h => h) (Or.inl ⟨by rfl, ?hyy2_4⟩) hTT ?resty2_4
   case hyy2_4 => intro wq hSw; have q0 := fun i => hSw.1.cell i; have q1 := fun i => hSw.2.cell i; go_simp <;> with_reducible rfl
   simp only [LS, Act.put]
   refine wpR_take (i := 6) (v := ?vy2_6) (fun _ => trivial) (by kernel_rfl) rfl (by kernel_rfl) (by kernel_rfl) (by kernel_rfl) rfl (fun _ _ _ h => h) (Or.inl ⟨by rfl, ?hyy2_6⟩) hTT ?resty2_6
   case hyy2_6 => intro wq hSw; have q0 := fun i => hSw.1.cell i; have q1 := fun i => hSw.2.cell i; go_simp <;> with_reducible rfl
   simp only [LS, Act.put]
   refine wpR_take (i := 7) (v := ?vy2_7) (fun _ => trivial) (by kernel_rfl) rfl (by kernel_rfl) (by kernel_rfl) (by kernel_rfl) rfl (fun _ _ _ h => h) (Or.inl ⟨by rfl, ?hyy2_7⟩) hTT ?resty2_7
   case hyy2_7 => intro wq hSw; have q0 := fun i => hSw.1.cell i; have q1 := fun i => hSw.2.cell i; go_simp <;> with_reducible rfl
   simp only [LS, Act.put]
   refine wpR_take (i := 8) (v := ?vy2_8) (fun _ => trivial) (by kernel_rfl) rfl (by kernel_rfl) (by kernel_rfl) (by kernel_rfl) rfl (fun _ _ _ h => h) (Or.inl ⟨by rfl, ?hyy2_8⟩) hTT ?resty2_8
   case hyy2_8 => intro wq hSw; have q0 := fun i => hSw.1.cell i; have q1 := fun i => hSw.2.cell i; go_simp <;> with_reducible rfl
   simp only [LS, Act.put]
   refine wpR_take (i := 9) (v := ?vy2_9) (fun _ => trivial) (by kernel_rfl) rfl (by kernel_rfl) (by kernel_rfl) (by kernel_rfl) rfl (fun _ _ _ h => h) (Or.inl ⟨by rfl, ?hyy2_9⟩) hTT ?resty2_9
   case hyy2_9 => intro wq hSw; have q0 := fun i => hSw.1.cell i; have q1 := fun i => hSw.2.cell i; go_simp <;> with_reducible rfl
   simp only [LS, Act.put]
   refine wpR_take (i := 10) (v := ?vy2_10) (fun _ => trivial) (by kernel_rfl) rfl (by kernel_rfl) (by kernel_rfl) (by kernel_rfl) rfl (fun _ _ _ h => h) (Or.inl ⟨by rfl, ?hyy2_10⟩) hTT ?resty2_10
   case hyy2_10 => intro wq hSw; have q0 := fun i => hSw.1.cell i; have q1 := fun i => hSw.2.cell i; go_simp <;> with_reducible rfl
   simp only [LS, Act.put]
   refine wpR_take (i := 13) (v := ?vy2_13) (fun _ => trivial) (by kernel_rfl) rfl (by kernel_rfl) (by kernel_rfl) (by kernel_rfl) rfl (fun _ _ _ h => h) (Or.inl ⟨by rfl, ?hyy2_13⟩) hTT ?resty2_13
   case hyy2_13 => intro wq hSw; have q0 := fun i => hSw.1.cell i; have q1 := fun i => hSw.2.cell i; go_simp <;> with_reducible rfl
   simp only [LS, Act.put]
   refine wpR_take (i := 14) (v := ?vy2_14) (fun _ => trivial) (by kernel_rfl) rfl (by kernel_rfl) (by kernel_rfl) (by kernel_rfl) rfl (fun _ _ _ h => h) (Or.inl ⟨by rfl, ?hyy2_14⟩) hTT ?resty2_14
   case hyy2_14 => intro wq hSw; have q0 := fun i => hSw.1.cell i; have q1 := fun i => hSw.2.cell i; go_simp <;> with_reducible rfl
   simp only [LS, Act.put]
   refine wpR_one (i := 5) (fun _ => trivial) rfl (by kernel_rfl) (fun K hK => ?_)
   go_simp
   refine ⟨trivial, (CallsIn.inRound l' (callsIn_wide.2 (HCH.out one x _ _ (by have := HSZX.out; omega) hm (by have := HNJ.out; omega)))).mono ?_⟩
   rintro e w1 ⟨rfl, hmw1, hg⟩
   have hhw1 : Held O W2 w1 := hheldD.trans (Held.of_gb hg hOm)
   replace hX := hX.gb hg (by omega); replace hP := hP.gb hg (by omega); replace hV := hV.gb hg (by omega); replace hown := own_gb hown hg hml; replace hG := hG.call hg hG.size
   replace hTT := And.intro hX hP
   clear hg
   refine hK _ _ (.inr hTT) ?_
   clear hK K
   try simp only [LS, Act.put]
   refine wpR_one (i := 11) (fun _ => trivial) rfl (by kernel_rfl) (fun K hK => ?_)
   go_simp
   refine ⟨trivial, (CallsIn.inRound l' (callsIn_wide.2 (HCH.out x other _ _ (by have := HSZX.out; omega) hmw1 (by have := HNJ.out; omega)))).mono ?_⟩
   rintro e w3 ⟨rfl, hmw3, hg⟩
   have hhw3 : Held O W2 w3 := hhw1.trans (Held.of_gb hg hOm)
   replace hX := hX.gb hg (by omega); replace hP := hP.gb hg (by omega); replace hV := hV.gb hg (by omega); replace hown := own_gb hown hg hml; replace hG := hG.call hg hG.size
   replace hTT := And.intro hX hP
   clear hg
   refine hK _ _ (.inr hTT) ?_
   clear hK K
   try simp only [LS, Act.put]
   refine wpR_take (i := 12) (v := ?vy2_12) (fun _ => trivial) (by kernel_rfl) rfl (by kernel_rfl) (by kernel_rfl) (by kernel_rfl) rfl (fun _ _ _ h => h) (Or.inl ⟨by rfl, ?hyy2_12⟩) hTT ?resty2_12
   case hyy2_12 => intro wq hSw; have q0 := fun i => hSw.1.cell i; have q1 := fun i => hSw.2.cell i; go_simp <;> with_reducible rfl
   simp only [LS, Act.put]
   refine wpR_one (i := 15) (fun _ => trivial) rfl (by kernel_rfl) (fun K hK => ?_)
   go_simp
   refine ⟨trivial, (CallsIn.inRound l' (callsIn_wide.2 (HCH.out one other _ _ (by have := HSZX.out; omega) hmw3 (by have := HNJ.out; omega)))).mono ?_⟩
   rintro e w4 ⟨rfl, hmw4, hg⟩
   have hhw4 : Held O W2 w4 := hhw3.trans (Held.of_gb hg hOm)
   replace hX := hX.gb hg (by omega); replace hP := hP.gb hg (by omega); replace hV := hV.gb hg (by omega); replace hown := own_gb hown hg hml; replace hG := hG.call hg hG.size
   replace hTT := And.intro hX hP
   clear hg
   refine hK _ _ (.inr hTT) ?_
   clear hK K
   try simp only [LS, Act.put]
   refine wpR_one (i := 16) (fun _ => trivial) rfl (by kernel_rfl) (fun K hK => ?_)
   go_simp
   refine hK _ _ (.inr hTT) ?_
   clear hK K
   try simp only [LS, Act.put]
   refine wpR_done (by kernel_rfl) ?_ _
   clear hTT
   gi_wp2
   refine ⟨hhw4, .slice va m vc, hV, hX, hP, ?_, ?_, hG, HOI.out.held hhw4, HAP.out⟩
   ·rw [HMP.out, HLB.out]
    simpa [← HM'.out, ← HYS.out] using hown
   ·rw [List.length_append, ← HJ.out]; exact hmw4.mono HNJ2.out
 case hdone =>
  rintro D xs O Z hD hOD rfl ⟨v, h1, h2, hp, h3, h4, h5, h6, h7⟩ hd
  have qV := fun i => h1.cell i
  have hlV := h1.lt
  gi_wp2
  refine leaves_marks [D] Z (by simp) (fun E hE => by rw [List.mem_singleton.1 hE]; exact hd) (fun w' hw' => ?_)
  have hO1 : ∀ k, k ∈ [D] → w.heap.size + 1 + 1 + 1 ≤ k := fun k hk => by rw [List.mem_singleton.1 hk]; have := HSZ.out; omega
  refine ⟨_, results_tmp rfl _ _ _, v, rfl, hw'.own h3 (fun g hg hk => h7 g hg (by rw [List.mem_singleton.1 hk]; exact hOD)), (hw'.memo h4 (fun h => by have := hO1 _ h; omega)).mono (by have := Nat.mul_le_mul_right K5 hle; have := HK5.out; omega), Off.gb h5 hw' (fun k hk => by have := hO1 k hk; omega) (by have := h6.2.2; omega)⟩
end
section
open Go.RowKit Go.Lib Go.Maps Go.Shelf
attribute [local go_sem] Oper.semAt_some
theorem own_put {A : World} {base g e sz n c : Nat} {xs : List Value} (h : A.ownsRow base e sz (.slice (some ⟨g, 0, none⟩) n c) n xs) {k : Nat} (hk : k < n * sz) (u : Value) : (A.setCell ⟨g, k, none⟩ u).ownsRow base e sz (.slice (some ⟨g, 0, none⟩) n c) n (xs.set k u) := by
 refine ⟨by rw [List.length_set]; exact h.1, ?_⟩
 rcases h.2 with ⟨h1, _⟩ | ⟨g', cap, cur, hv, hb, hg, hn, hm, hs, ht⟩
 ·cases h1
 ·injection hv with e1 _ e3
  injection e1 with e1
  injection e1 with e1
  subst e1; subst e3
  have hB : Blk A g e cur := hg
  refine .inr ⟨g, c, cur.setIfInBounds k u, rfl, hb, hB.set_ k u, hn, hm, by simpa using hs, ?_⟩
  rw [Array.toList_setIfInBounds, ← ht, List.take_set]
theorem own_fz {A : World} {base g e sz n c : Nat} {xs : List Value} (h : A.ownsRow base e sz (.slice (some ⟨g, 0, none⟩) n c) n xs) (k : Nat) : A.frozen? ⟨g, k, none⟩ = false := by
 rcases h.2 with ⟨h1, _⟩ | ⟨g', cap, cur, hv, hb, hg, hn, hm, hs, ht⟩
 ·cases h1
 ·injection hv with e1 _ e3
  injection e1 with e1
  injection e1 with e1
  subst e1
  have hB : Blk A g e cur := hg
  exact hB.frozen k
theorem revInd {α : Type} {p : List α → Prop} (h0 : p []) (h1 : ∀ l x, p l → p (l ++ [x])) : ∀ l, p l := by
 have : ∀ (n : Nat) (l : List α), l.length = n → p l := by
  intro n
  induction n with
  | zero => intro l hl; rw [List.length_eq_zero_iff.1 hl]; exact h0
  | succ n ih =>
   intro l hl
   have hne : l ≠ [] := fun e => by rw [e] at hl; cases hl
   rw [← List.dropLast_concat_getLast hne]
   exact h1 _ _ (ih _ (by rw [List.length_dropLast]; omega))
 exact fun l => this _ l rfl
def updF (f : ByteArray) (x : RT) : RT := ⟨x.l, x.c + (edB x.l f : Int)⟩
def updK (f : ByteArray) (k : Nat) (xs : List RT) : List RT := (xs.take k).map (updF f) ++ xs.drop k
theorem updK_len (f : ByteArray) (k : Nat) (xs : List RT) : (updK f k xs).length = xs.length := by unfold updK; simp; omega
theorem take_len {α : Type} {k : Nat} {xs : List α} (h : k < xs.length) : (xs.take k).length = k := by rw [List.length_take]; omega
theorem updK_get (f : ByteArray) {k : Nat} {xs : List RT} (h : k < xs.length) : (updK f k xs)[k]'(by rw [updK_len]; exact h) = xs[k] := by
 unfold updK
 rw [List.getElem_append_right (by rw [List.length_map, take_len h]; exact Nat.le_refl _)]
 simp only [List.length_map, take_len h, Nat.sub_self, List.getElem_drop, Nat.add_zero]
theorem updK_all (f : ByteArray) (xs : List RT) : updK f xs.length xs = xs.map (updF f) := by unfold updK; simp
theorem set_flatRT (r' : RT) (l : ByteArray) : ∀ (A : List RT) (r : RT) (B : List RT), r.l = l → r'.l = l → (((A ++ r :: B).flatMap RT.cells).set (A.length * 2 + 1) (.int .i64 r'.c)) = (A ++ r' :: B).flatMap RT.cells
 | [], r, B, h1, h2 => by simp [RT.cells, h1, h2]
 | a :: A, r, B, h1, h2 => by
  have ih := set_flatRT r' l A r B h1 h2
  simp only [List.cons_append, List.flatMap_cons, List.length_cons]
  rw [List.set_append_right _ _ (by simp [RT.cells]; omega), ← ih]
  congr 2
  simp [RT.cells]; omega
theorem updK_set (f : ByteArray) {k : Nat} {xs : List RT} (h : k < xs.length) : ((updK f k xs).flatMap RT.cells).set (k * 2 + 1) (.int .i64 ((xs[k]).c + (edB (xs[k]).l f : Int))) = (updK f (k + 1) xs).flatMap RT.cells := by
 have hd : xs.drop k = xs[k] :: xs.drop (k + 1) := List.drop_eq_getElem_cons h
 have ht : xs.take (k + 1) = xs.take k ++ [xs[k]] := List.take_succ_eq_append_getElem h
 have hs := set_flatRT (updF f xs[k]) (xs[k]).l ((xs.take k).map (updF f)) xs[k] (xs.drop (k + 1)) rfl rfl
 have hl : ((xs.take k).map (updF f)).length = k := by simp; omega
 rw [hl] at hs
 unfold updK
 rw [hd, ht, List.map_append, List.append_assoc]
 exact hs
theorem sumI_bd : ∀ (ws : List Int) (M : Int), (∀ x ∈ ws, 0 ≤ x ∧ x ≤ M) → 0 ≤ sumI ws ∧ sumI ws ≤ ws.length * M := by
 refine revInd ?_ ?_
 ·intro M _; simp [sumI]
 ·intro l x ih M h
  have h1 := ih M (fun y hy => h y (List.mem_append_left _ hy))
  have h2 := h x (List.mem_append_right _ (List.mem_singleton_self x))
  rw [sumI_snoc, List.length_append, List.length_singleton]
  have : ((l.length + 1 : Nat) : Int) * M = l.length * M + M := by rw [Int.natCast_add, Int.add_mul]; simp
  rw [this]
  omega
theorem rated_bd {wn : Nat} {A : Option Addr} {n : Nat} {cs : List VC} {w : World} {B : Nat} (hb : BkG wn A n cs w B) (q : Nat) : ∀ x ∈ ratedL wn q cs, x.l.size ≤ 4 ∧ 0 ≤ x.c ∧ x.c ≤ 1000 := by
 intro x hx
 obtain ⟨s, hs, rfl⟩ := List.mem_map.1 hx
 have hs4 := (allLn_mem hs).1
 have h1 : ∀ y ∈ olL q s cs, 0 ≤ y ∧ y ≤ 8 := by
  intro y hy
  obtain ⟨c, hc, hy⟩ := List.mem_flatMap.1 hy
  unfold edO at hy
  split at hy
  ·rename_i v hv
   split at hy
   ·cases hy
   ·rw [List.mem_singleton.1 hy]
    have h2 := hb.2.2.2.2.2.2 c hc v (List.mem_of_getElem? hv)
    have h3 := edB_le8 s (lbS v.ws) hs4 (by rw [lbS_size]; omega)
    omega
  ·cases hy
 have h2 := sumI_bd _ 8 h1
 have h3 := olL_len q s cs
 have h4 := hb.len
 have h5 := hb.2.1.2
 refine ⟨hs4, h2.1, ?_⟩
 show sumI (olL q s cs) ≤ 1000
 omega
def maxAfter (R : List RT) (fs : List ByteArray) : Nat := fs.foldl (fun m f => max m (leastR (R.map (updF f))).length) 0
theorem maxAfter_snoc (R : List RT) (fs : List ByteArray) (f : ByteArray) : maxAfter R (fs ++ [f]) = max (maxAfter R fs) (leastR (R.map (updF f))).length := by unfold maxAfter; rw [List.foldl_append]; rfl
theorem leastR_le (xs : List RT) : (leastR xs).length ≤ xs.length := by
 unfold leastR
 split
 ·exact keepR_le _ _
 ·exact Nat.zero_le _
theorem maxAfter_le (R : List RT) (fs : List ByteArray) : maxAfter R fs ≤ R.length := by
 revert fs
 refine revInd (Nat.zero_le _) ?_
 ·intro l f ih
  rw [maxAfter_snoc]
  have := leastR_le (R.map (updF f))
  rw [List.length_map] at this
  omega
theorem leastAfter_any {wn : Nat} {A : Option Addr} {n : Nat} (cap : Nat) {cs : List VC} (q mb N' : Nat) {B : Nat} {w : World} (hb : BkG wn A n cs w B) (hBm : B ≤ mb) (hq : q < headN cs) (hm : Memo w mb N') (hN : N' + 20000 * KK 8 ≤ maxLen) :
  Calls Tryz.prog 188 #[.agg #[.int .i64 (wn : Int), .slice A n cap, .int .i64 (q : Int), .map (some mb)]] w fun e w' => e = .returned (.int .i64 (maxAfter (ratedL wn q cs) (allLn wn) : Nat)) ∧ Memo w' mb (N' + 16000 * KK 8) ∧ GB w.heap.size mb w w' := by
 have hmb := hm.lt
 have hw3 := hb.1.2
 have hle := allLn_le hw3
 have hX0 := Blk.new w 132 #[.int .i64 (wn : Int), .slice A n cap, .int .i64 (q : Int), .map (some mb)]
 have hG0 : GB w.heap.size mb w (w.alloc (.cells #[.int .i64 (wn : Int), .slice A n cap, .int .i64 (q : Int), .map (some mb)] 132)) := (GB.refl _ _ _).alloc (Nat.le_refl _) _
 have hrt := rated_bk cap q mb N' (hb.below (hG0.below hBm (by omega))) hBm hq (hm.alloc (.cells #[.int .i64 (wn : Int), .slice A n cap, .int .i64 (q : Int), .map (some mb)] 132)) (by omega)
 have hbd := rated_bd hb q
 have hp := ratedL_pos wn q cs
 have hl := ratedL_le q cs hw3
 generalize ratedL wn q cs = R at *
 have hch := fun (a b : ByteArray) (wx : World) (N1 : Nat) (hs : a.size ≤ 4 ∧ b.size ≤ 4) (hmx : Memo wx mb N1) (hN1 : N1 + KK 8 ≤ maxLen) => changes_any 8 a b mb N1 wx (by omega) (by omega) (by omega) hmx hN1
 obtain ⟨K, hK⟩ : ∃ K, K = KK 8 := ⟨_, rfl⟩
 rw [← hK] at hN hrt ⊢
 simp only [← hK] at hch
 have HCH := Lib.hid hch; have HRT := Lib.hid hrt; have HBD := Lib.hid hbd
 clear hch hK hrt hbd
 obtain ⟨L, hL⟩ : ∃ L, L = R.length := ⟨_, rfl⟩
 obtain ⟨cells0, hcells⟩ : ∃ cells0, cells0 = R.flatMap RT.cells := ⟨_, rfl⟩
 rw [← hL] at hp hl
 have HRT2 : Hid (Calls Tryz.prog 136 #[.agg #[.int .i64 (wn : Int), .slice A n cap, .int .i64 (q : Int), .map (some mb)]] (w.alloc (.cells #[.int .i64 (wn : Int), .slice A n cap, .int .i64 (q : Int), .map (some mb)] 132)) fun e w' => ∃ v, e = .returned v ∧ w'.ownsRow (w.alloc (.cells #[.int .i64 (wn : Int), .slice A n cap, .int .i64 (q : Int), .map (some mb)] 132)).heap.size 136 2 v L cells0 ∧ Memo w' mb (N' + 605 * K) ∧ GB (w.alloc (.cells #[.int .i64 (wn : Int), .slice A n cap, .int .i64 (q : Int), .map (some mb)] 132)).heap.size mb (w.alloc (.cells #[.int .i64 (wn : Int), .slice A n cap, .int .i64 (q : Int), .map (some mb)] 132)) w') := by rw [hL, hcells]; exact HRT
 have HL := Lib.hid hL; have HCE := Lib.hid hcells
 clear HRT hL hcells
 refine (callsIn_wide (n := 9)).1 ?_
 refine callsIn_of_wp_marks Tryz.func188 rfl trivial ?_ rfl
 simp only [Tryz.ntmps188, List.size_toArray, List.length_cons, List.length_nil, Nat.reduceAdd, Nat.reduceSub, Array.replicate_succ, Array.replicate_zero, List.push_toArray, List.append_toArray, List.nil_append, List.cons_append]
 have qX := fun i => hX0.cell i
 gi_wp2_with (first
   | (refine ⟨trivial, ?_⟩; gi_at_call 136; refine (callsIn_wide.2 HRT2.out).mono ?_; rintro e w1 ⟨v, rfl, hown, hm1, hg⟩; obtain ⟨va, vc, rfl⟩ := own_slice hown; have hX1 := hX0.gb hg (by omega); clear qX; have qX := fun i => hX1.cell i; have hlX := hX1.lt; have hfn := fun (W : World) => (Blk.new W 130 #[.slice none 0 0]).frozen 0; have hfn3 := fun (W : World) => (Blk.new W 3 #[.int .i64 0]).frozen 0)
   | (refine ⟨trivial, ?_⟩; gi_at_call 134; refine (callsIn_wide.2 (lines_any (wn : Int) _)).mono ?_; rintro e w' ⟨rfl, rfl⟩))
 obtain ⟨S1, hS1⟩ : ∃ S1, S1 = w1.heap.size := ⟨_, rfl⟩
 obtain ⟨W0, hW0⟩ : ∃ W0 : World, W0 = ((w1.alloc (.cells #[.slice va L vc] 130)).alloc (.cells #[.int .i64 0] 3)).alloc (.cells #[.int .i64 (wn : Int)] 3) := ⟨_, rfl⟩
 have hV := ((Blk.new w1 130 #[.slice va L vc]).alloc (.cells #[.int .i64 0] 3)).alloc (.cells #[.int .i64 (wn : Int)] 3)
 have hM := (blk2_1 w1 (.cells #[.slice va L vc] 130) 3 #[.int .i64 0]).alloc (.cells #[.int .i64 (wn : Int)] 3)
 have hWb := Blk.new ((w1.alloc (.cells #[.slice va L vc] 130)).alloc (.cells #[.int .i64 0] 3)) 3 #[.int .i64 (wn : Int)]
 have hX := ((hX1.alloc (.cells #[.slice va L vc] 130)).alloc (.cells #[.int .i64 0] 3)).alloc (.cells #[.int .i64 (wn : Int)] 3)
 have hbw : Below w1.heap.size w1 W0 := by rw [hW0]; exact (((Below.refl _ _).alloc (Nat.le_refl _) _).alloc (by simp only [World.size_alloc]; omega) _).alloc (by simp only [World.size_alloc]; omega) _
 have hsz : W0.heap.size = S1 + 1 + 1 + 1 := by rw [hW0, hS1]; simp only [World.size_alloc]
 have hG1 : GB w.heap.size mb w w1 := hG0.call hg hG0.size
 have hvl : ∀ g, (Value.slice va L vc).ownBlock = some g → g < S1 := fun g hgg => by rw [hS1]; exact (hown.lt g hgg).2
 have hS1w : w.heap.size + 1 ≤ S1 := by rw [hS1]; have := hg.size; rw [World.size_alloc] at this; exact this
 rw [World.size_alloc] at hown
 replace hown := own_more (ownsRow_below' hown hbw) (Nat.le_succ w.heap.size)
 have hG := hG1.trans (GB.of_below (hbw.mono hG1.size))
 replace hm1 := hm1.below hbw
 rw [show ((w1.alloc (.cells #[.slice va L vc] 130)).alloc (.cells #[.int .i64 0] 3)).heap.size = S1 + 1 + 1 by rw [hS1]; simp only [World.size_alloc]] at hWb
 rw [← hS1] at hV hM
 rw [← hW0] at hV hM hWb hX
 rw [← hW0, ← hS1]
 have HS1W := Lib.hid hS1w; have HSZ := Lib.hid hsz; have HVL := Lib.hid hvl
 clear hW0 hsz hbw hg hX0 hG0 hX1 hS1 hvl qX hlX hfn hfn3 hG1 hm
 have hml : mb < w.heap.size := hmb
 obtain ⟨K2, hK2⟩ : ∃ K2, K2 = 121 * K := ⟨_, rfl⟩
 have HK2 := Lib.hid hK2; clear hK2
 refine wpIn_rangeO (F := Fence.wide) (n := 9) (w0 := W0) (Pre := fun ys => ys <+: allLn wn) (S := fun ys => ys = allLn wn) (O0 := fun k => k = S1 + 1 + 1) (Good := fun _ _ _ => True) (encs := fun s : ByteArray => #[.string s]) rfl (by omega) (gf := 175) (lb := #[.pointer (some ⟨S1 + 1 + 1, 0, none⟩)]) rfl trivial (enters_of Tryz.func175 (by kernel_rfl) rfl)
  (fun k h => by have := HSZ.out; omega) (lines_seq wn (S1 + 1 + 1) _ hw3 W0 hWb) (Below.refl _ _) (fun _ => rfl)
  (fun (pre : List ByteArray) O Z => Blk Z S1 130 #[.slice va L vc] ∧ Blk Z w.heap.size 132 #[.int .i64 (wn : Int), .slice A n cap, .int .i64 (q : Int), .map (some mb)] ∧ Blk Z (S1 + 1) 3 #[.int .i64 (maxAfter R pre : Nat)] ∧ Z.ownsRow w.heap.size 136 2 (.slice va L vc) L cells0 ∧ Memo Z mb (N' + 605 * K + pre.length * K2) ∧ GB w.heap.size mb w Z ∧ OIn (S1 + 1 + 1) O Z)
  (fun _ _ _ _ => False)
  ?hI (fun _ _ _ _ _ _ h => h.elim) ?h0 ?hround ?hdone (fun _ _ _ _ _ _ _ h => h.elim)
 case hI =>
  rintro s O O' P0 Q0 ⟨h1, h2, hp, h3, h4, h5, h6⟩ ho hO'
  exact ⟨ho.blk h1 (fun h => by have := h6.1 _ h; omega), ho.blk h2 (fun h => by have := h6.1 _ h; omega), ho.blk hp (fun h => by have := h6.1 _ h; omega), ho.own h3 (fun g hg h => by have := HVL.out g hg; have := h6.1 _ h; omega), ho.memo h4 (fun h => by have := h6.1 _ h; omega), Off.gb h5 ho (fun k h => by have := h6.1 _ h; omega) (by have := h6.2.2; omega), h6.off ho hO'⟩
 case h0 =>
  intro W3 hb3 hs3
  have hs := HSZ.out
  refine ⟨hV.below hb3 hV.lt, hX.below hb3 hX.lt, hM.below hb3 hM.lt, ownsRow_below' hown hb3, ?_, hG.trans (GB.of_below (hb3.mono (by omega))), ⟨?_, ?_, by omega⟩⟩
  ·rw [List.length_nil, Nat.zero_mul, Nat.add_zero]; exact hm1.below hb3
  ·intro k h; omega
  ·intro k h; omega
 case hround =>
  rintro l' pre x O W0' W1' K1 hOl ⟨h1, h2, hp2, h3, h4, h5, h6⟩ ho _ hpr hK1
  simp only [List.zip_toArray, List.zip_cons_cons, List.zip_nil_right, List.foldl_toArray', List.foldl_toArray, List.foldl_cons, List.foldl_nil, List.setIfInBounds_toArray, List.set_cons_succ, List.set_cons_zero, List.size_toArray, List.length_cons, List.length_nil]
  gi_wp2
  refine hK1 _ _ (Held.refl _ _) (fun W2 ho2 hsz2 => ?_)
  have hxs : x.size ≤ 4 := (allLn_mem (hpr.mem (List.mem_append_right _ (List.mem_singleton_self x)))).1
  have hjl : pre.length + 1 ≤ 121 := by have := hpr.length_le; simp at this; omega
  have hoo := ho.trans ho2
  replace hV := hoo.blk h1 (fun h => by have := h6.1 _ h; omega)
  replace hX := hoo.blk h2 (fun h => by have := h6.1 _ h; omega)
  replace hM := hoo.blk hp2 (fun h => by have := h6.1 _ h; omega)
  replace hown := hoo.own h3 (fun g hg h => by have := HVL.out g hg; have := h6.1 _ h; omega)
  have hm := hoo.memo h4 (fun h => by have := h6.1 _ h; omega)
  replace hG := Off.gb h5 hoo (fun k h => by have := h6.1 _ h; omega) (by have := h6.2.2; omega)
  have hOI := h6.off hoo (O' := O) (fun k h => .inl h)
  have hOm : ¬ O mb := fun h => by have := h6.1 _ h; omega
  have hOM : ¬ O (S1 + 1) := fun h => by have := h6.1 _ h; omega
  have HOI := Lib.hid hOI
  have HMA := Lib.hid (maxAfter_snoc R pre x)
  clear h1 h2 hp2 h3 h4 h5 h6 ho ho2 hsz2 hoo hOI hK1 hpr hm1
  obtain ⟨j, hj⟩ : ∃ j, j = pre.length := ⟨_, rfl⟩
  obtain ⟨M0, hM0⟩ : ∃ M0, M0 = maxAfter R pre := ⟨_, rfl⟩
  obtain ⟨L5, hL5⟩ : ∃ L5, L5 = (leastR (R.map (updF x))).length := ⟨_, rfl⟩
  have hM0l : M0 ≤ L := by rw [hM0, HL.out]; exact maxAfter_le R pre
  have hL5l : L5 ≤ L := by rw [hL5, HL.out]; have := leastR_le (R.map (updF x)); rw [List.length_map] at this; exact this
  rw [← hj] at hm hjl
  rw [← hM0] at hM
  have hmul : j * K2 ≤ 121 * K2 := Nat.mul_le_mul_right _ (by omega)
  have hsu : (j + 1) * K2 = j * K2 + K2 := Nat.succ_mul j K2
  have HJ := Lib.hid hj; have HM0 := Lib.hid hM0; have HL5 := Lib.hid hL5
  have HNJ : Hid (N' + 605 * K + j * K2 + 122 * K ≤ maxLen) := Lib.hid (by have := HK2.out; omega)
  have HNJ2 : Hid (N' + 605 * K + j * K2 + 121 * K = N' + 605 * K + (j + 1) * K2) := Lib.hid (by have := HK2.out; omega)
  clear hj hM0 hL5 hmul hsu
  have hrd := Rd.of_own hown
  rw [HCE.out] at hrd
  have qV := fun i => hV.cell i
  have hlV := hV.lt
  gi_wp2_with (refine ⟨trivial, ?_⟩; gi_at_call 180; refine (CallsIn.inRound l' (callsIn_wide.2 (clone_rt va L vc R W2 (by omega) hp hrd))).mono ?_; rintro e wc ⟨v2, rfl, hown2, hb2⟩; obtain ⟨g2, c2, rfl, hg2, hg2l⟩ := hown2.form hp)
  have hHel0 : Held O W2 wc := Held.of_below hb2
  replace hV := hV.below hb2 hV.lt; replace hX := hX.below hb2 hX.lt; replace hM := hM.below hb2 hM.lt; replace hown := ownsRow_below' hown hb2; replace hm := hm.below hb2; replace hG := hG.trans (GB.of_below (hb2.mono hG.size))
  have hW2s : S1 + 1 + 1 ≤ W2.heap.size := HOI.out.2.2
  clear hrd qV hlV hb2
  gi_loopg [20] L (fun g i wr => ∃ (k : Nat), g = L - k ∧ k ≤ L ∧ i = .int .i64 k ∧ wr.ownsRow W2.heap.size 136 2 (.slice (some ⟨g2, 0, none⟩) L c2) L ((updK x k R).flatMap RT.cells) ∧ Blk wr S1 130 #[.slice va L vc] ∧ Blk wr w.heap.size 132 #[.int .i64 (wn : Int), .slice A n cap, .int .i64 (q : Int), .map (some mb)] ∧ Blk wr (S1 + 1) 3 #[.int .i64 (M0 : Int)] ∧ wr.ownsRow w.heap.size 136 2 (.slice va L vc) L cells0 ∧ Memo wr mb (N' + 605 * K + j * K2 + k * K) ∧ GB w.heap.size mb w wr ∧ Held O W2 wr)
  case atStart => exact ⟨0, rfl, Nat.zero_le _, rfl, by simpa [updK] using hown2, hV, hX, hM, hown, by rw [Nat.zero_mul, Nat.add_zero]; exact hm, hG, hHel0⟩
  case round =>
   clear hown2 hV hX hM hown hm hG hHel0 hg2l
   obtain ⟨k, hg, hk, rfl, hown2, hV, hX, hM, hown, hm, hG, hHel⟩ := hrel
   rename World => WR
   have HG := Lib.hid hg; clear hg
   by_cases hkL : k < L
   ·have hki : (k : Int) < L := by omega
    have hkR : k < R.length := by rw [← HL.out]; exact hkL
    obtain ⟨_, _, hz, e3, _, hc0, hc1⟩ := (Rd.of_own hown2).elRT hkL
    cases e3
    have hget := updK_get x hkR
    have hset := updK_set x hkR
    have hbk := HBD.out _ (List.getElem_mem hkR)
    have HHC : Hid (∀ W : World, W.ownsRow W2.heap.size 136 2 (.slice (some ⟨g2, 0, none⟩) L c2) L ((updK x k R).flatMap RT.cells) → W.cell? ⟨g2, k * 2 + 1, none⟩ = some (.int .i64 (R[k]).c)) := Lib.hid (fun W hW => by
      obtain ⟨_, _, _, e4, _, _, hc⟩ := (Rd.of_own hW).elRT hkL
      cases e4
      have := hc
      simp only [RT.cells, List.getElem_cons_zero, List.getElem_cons_succ, hget, Nat.zero_add] at this
      exact this)
    simp only [RT.cells, List.getElem_cons_zero, List.getElem_cons_succ, hget, Nat.zero_add] at hc0 hc1
    generalize R[k] = r at *
    obtain ⟨l, c⟩ := r
    dsimp only at hc0 hc1 hset hbk HHC
    obtain ⟨cellsk, hck⟩ : ∃ cellsk, cellsk = (updK x k R).flatMap RT.cells := ⟨_, rfl⟩
    rw [← hck] at hown2 hset HHC
    obtain ⟨Nk, hNk⟩ : ∃ Nk, Nk = N' + 605 * K + j * K2 + k * K := ⟨_, rfl⟩
    rw [← hNk] at hm
    have hkm : k * K ≤ 120 * K := Nat.mul_le_mul_right _ (by omega)
    have HNK : Hid (Nk + K ≤ maxLen) := Lib.hid (by have := HNJ.out; omega)
    have HNK2 : Hid (Nk + K = N' + 605 * K + j * K2 + (k + 1) * K) := Lib.hid (by have : (k + 1) * K = k * K + K := Nat.succ_mul k K; omega)
    have HSET := Lib.hid hset; have HCC := HHC; have HFZ : Hid (∀ W : World, W.ownsRow W2.heap.size 136 2 (.slice (some ⟨g2, 0, none⟩) L c2) L cellsk → W.frozen? ⟨g2, k * 2 + 1, none⟩ = false) := Lib.hid (fun W h => own_fz h _)
    have HLX := Lib.hid (And.intro hbk.1 hxs)
    have hed := edB_le8 l x hbk.1 hxs
    have hcb := hbk.2
    clear hget hset hck hNk hkm hbk HHC hz
    have hg2l := (hown2.lt g2 rfl).2
    have qX := fun i => hX.cell i
    gi_wp2
    clear qX
    have hR := Blk.new WR 136 #[.string l, .int .i64 c]
    obtain ⟨b8, hb8⟩ : ∃ b8, b8 = WR.heap.size := ⟨_, rfl⟩
    replace hV := hV.alloc (.cells #[.string l, .int .i64 c] 136); replace hX := hX.alloc (.cells #[.string l, .int .i64 c] 136); replace hM := hM.alloc (.cells #[.string l, .int .i64 c] 136); replace hown := hown.alloc (.cells #[.string l, .int .i64 c] 136); replace hown2 := hown2.alloc (.cells #[.string l, .int .i64 c] 136); replace hm := hm.alloc (.cells #[.string l, .int .i64 c] 136); replace hG := hG.alloc hG.size (.cells #[.string l, .int .i64 c] 136); replace hHel := hHel.trans (Held.alloc O WR (.cells #[.string l, .int .i64 c] 136))
    have hb8m : mb < b8 := by rw [hb8]; have := hG.size; have := hV.lt; have := hHel.size; rw [World.size_alloc] at *; omega
    rw [← hb8] at hR ⊢
    clear hg2l hc0 hc1
    generalize WR.alloc (.cells #[.string l, .int .i64 c] 136) = WR at *
    have HB8 := Lib.hid hb8; clear hb8
    refine wpIn_region_R (fun w' => Blk w' w.heap.size 132 #[.int .i64 (wn : Int), .slice A n cap, .int .i64 (q : Int), .map (some mb)] ∧ Blk w' b8 136 #[.string l, .int .i64 c] ∧ w'.cell? ⟨g2, k * 2 + 1, none⟩ = some (.int .i64 c)) 15 (by kernel_rfl) ?_
    have hheldD := Held.drew O WR; replace hX := hX.drew; replace hR := hR.drew; replace hV := hV.drew; replace hM := hM.drew; replace hown : WR.drew.ownsRow w.heap.size 136 2 (.slice va L vc) L cells0 := hown; replace hown2 : WR.drew.ownsRow W2.heap.size 136 2 (.slice (some ⟨g2, 0, none⟩) L c2) L cellsk := hown2; replace hm : Memo WR.drew mb Nk := hm; replace hG := hG.drew
    generalize WR.drew = WD at *
    have hTT : Blk WD w.heap.size 132 #[.int .i64 (wn : Int), .slice A n cap, .int .i64 (q : Int), .map (some mb)] ∧ Blk WD b8 136 #[.string l, .int .i64 c] ∧ WD.cell? ⟨g2, k * 2 + 1, none⟩ = some (.int .i64 c) := ⟨hX, hR, HCC.out _ hown2⟩
    refine wpR_takeL (i := 0) (v := ?vy1_0) (fun _ => trivial) (by kernel_rfl) rfl (by kernel_rfl) (by kernel_rfl) (by kernel_rfl) (by kernel_rfl) (fun _ _ _ h => h) (Or.inl ⟨by rfl, ?hyy1_0⟩) hTT ?resty1_0
    case hyy1_0 => intro wq hSw; have q0 := fun i => hSw.1.cell i; have q1 := fun i => hSw.2.1.cell i; have q2 := hSw.2.2; go_simp <;> with_reducible rfl
    simp only [LS, Act.put]
    refine wpR_takeL (i := 1) (v := ?vy1_1) (fun _ => trivial) (by kernel_rfl) rfl (by kernel_rfl) (by kernel_rfl) (by kernel_rfl) (by kernel_rfl) (fun _ _ _ h => h) (Or.inl ⟨by rfl, ?hyy1_1⟩) hTT ?resty1_1
    case hyy1_1 => intro wq hSw; have q0 := fun i => hSw.1.cell i; have q1 := fun i => hSw.2.1.cell i; have q2 := hSw.2.2; go_simp <;> with_reducible rfl
    simp only [LS, Act.put]
    refine wpR_takeL (i := 2) (v := ?vy1_2) (fun _ => trivial) (by kernel_rfl) rfl (by kernel_rfl) (by kernel_rfl) (by kernel_rfl) (by kernel_rfl) (fun _ _ _ h => h) (Or.inl ⟨by rfl, ?hyy1_2⟩) hTT ?resty1_2
    case hyy1_2 => intro wq hSw; have q0 := fun i => hSw.1.cell i; have q1 := fun i => hSw.2.1.cell i; have q2 := hSw.2.2; go_simp <;> with_reducible rfl
    simp only [LS, Act.put]
    refine wpR_takeL (i := 3) (v := ?vy1_3) (fun _ => trivial) (by kernel_rfl) rfl (by kernel_rfl) (by kernel_rfl) (by kernel_rfl) (by kernel_rfl) (fun _ _ _ h => h) (Or.inl ⟨by rfl, ?hyy1_3⟩) hTT ?resty1_3
    case hyy1_3 => intro wq hSw; have q0 := fun i => hSw.1.cell i; have q1 := fun i => hSw.2.1.cell i; have q2 := hSw.2.2; go_simp <;> with_reducible rfl
    simp only [LS, Act.put]
    refine wpR_takeL (i := 4) (v := ?vy1_4) (fun _ => trivial) (by kernel_rfl) rfl (by kernel_rfl) (by kernel_rfl) (by kernel_rfl) (by kernel_rfl) (fun _ _ _ h => h) (Or.inl ⟨by rfl, ?hyy1_4⟩) hTT ?resty1_4
    case hyy1_4 => intro wq hSw; have q0 := fun i => hSw.1.cell i; have q1 := fun i => hSw.2.1.cell i; have q2 := hSw.2.2; go_simp <;> with_reducible rfl
    simp only [LS, Act.put]
    refine wpR_takeL (i := 5) (v := ?vy1_5) (fun _ => trivial) (by kernel_rfl) rfl (by kernel_rfl) (by kernel_rfl) (by kernel_rfl) (by kernel_rfl) (fun _ _ _ h => h) (Or.inl ⟨by rfl, ?hyy1_5⟩) hTT ?resty1_5
    case hyy1_5 => intro wq hSw; have q0 := fun i => hSw.1.cell i; have q1 := fun i => hSw.2.1.cell i; have q2 := hSw.2.2; go_simp <;> with_reducible rfl
    simp only [LS, Act.put]
    refine wpR_takeL (i := 6) (v := ?vy1_6) (fun _ => trivial) (by kernel_rfl) rfl (by kernel_rfl) (by kernel_rfl) (by kernel_rfl) (by kernel_rfl) (fun _ _ _ h => h) (Or.inl ⟨by rfl, ?hyy1_6⟩) hTT ?resty1_6
    case hyy1_6 => intro wq hSw; have q0 := fun i => hSw.1.cell i; have q1 := fun i => hSw.2.1.cell i; have q2 := hSw.2.2; go_simp <;> with_reducible rfl
    simp only [LS, Act.put]
    refine wpR_takeL (i := 7) (v := ?vy1_7) (fun _ => trivial) (by kernel_rfl) rfl (by kernel_rfl) (by kernel_rfl) (by kernel_rfl) (by kernel_rfl) (fun _ _ _ h => h) (Or.inl ⟨by rfl, ?hyy1_7⟩) hTT ?resty1_7
    case hyy1_7 => intro wq hSw; have q0 := fun i => hSw.1.cell i; have q1 := fun i => hSw.2.1.cell i; have q2 := hSw.2.2; go_simp <;> with_reducible rfl
    simp only [LS, Act.put]
    refine wpR_takeL (i := 8) (v := ?vy1_8) (fun _ => trivial) (by kernel_rfl) rfl (by kernel_rfl) (by kernel_rfl) (by kernel_rfl) (by kernel_rfl) (fun _ _ _ h => h) (Or.inl ⟨by rfl, ?hyy1_8⟩) hTT ?resty1_8
    case hyy1_8 => intro wq hSw; have q0 := fun i => hSw.1.cell i; have q1 := fun i => hSw.2.1.cell i; have q2 := hSw.2.2; go_simp <;> with_reducible rfl
    simp only [LS, Act.put]
    refine wpR_takeL (i := 9) (v := ?vy1_9) (fun _ => trivial) (by kernel_rfl) rfl (by kernel_rfl) (by kernel_rfl) (by kernel_rfl) (by kernel_rfl) (fun _ _ _ h => h) (Or.inl ⟨by rfl, ?hyy1_9⟩) hTT ?resty1_9
    case hyy1_9 => intro wq hSw; have q0 := fun i => hSw.1.cell i; have q1 := fun i => hSw.2.1.cell i; have q2 := hSw.2.2; go_simp <;> with_reducible rfl
    simp only [LS, Act.put]
    refine wpR_takeL (i := 10) (v := ?vy1_10) (fun _ => trivial) (by kernel_rfl) rfl (by kernel_rfl) (by kernel_rfl) (by kernel_rfl) (by kernel_rfl) (fun _ _ _ h => h) (Or.inl ⟨by rfl, ?hyy1_10⟩) hTT ?resty1_10
    case hyy1_10 => intro wq hSw; have q0 := fun i => hSw.1.cell i; have q1 := fun i => hSw.2.1.cell i; have q2 := hSw.2.2; go_simp <;> with_reducible rfl
    simp only [LS, Act.put]
    refine wpR_one (i := 11) (fun _ => trivial) rfl (by kernel_rfl) (fun K hK => ?_)
    go_simp
    refine ⟨trivial, (CallsIn.inRound l' (callsIn_wide.2 (HCH.out l x _ _ HLX.out hm HNK.out))).mono ?_⟩
    rintro e w3 ⟨rfl, hm3, hg⟩
    have hh3 : Held O W2 w3 := (hHel.trans hheldD).trans (Held.of_gb hg hOm)
    replace hX := hX.gb hg (by omega); replace hR := hR.gb hg (by omega); replace hV := hV.gb hg (by omega); replace hM := hM.gb hg (by omega); replace hown := own_gb hown hg hmb; replace hown2 := own_gb hown2 hg (by omega); replace hG := hG.call hg hG.size
    replace hTT := And.intro hX (And.intro hR (HCC.out _ hown2))
    clear hg
    refine hK _ _ (.inr hTT) ?_
    clear hK K
    try simp only [LS, Act.put]
    refine wpR_takeL (i := 12) (v := ?vy1_12) (fun _ => trivial) (by kernel_rfl) rfl (by kernel_rfl) (by kernel_rfl) (by kernel_rfl) (by kernel_rfl) (fun _ _ _ h => h) (Or.inl ⟨by rfl, ?hyy1_12⟩) hTT ?resty1_12
    case hyy1_12 => intro wq hSw; have q0 := fun i => hSw.1.cell i; have q1 := fun i => hSw.2.1.cell i; have q2 := hSw.2.2; go_simp <;> with_reducible rfl
    simp only [LS, Act.put]
    refine wpR_one (i := 13) (fun _ => trivial) rfl (by kernel_rfl) (fun K hK => ?_)
    go_simp
    refine hK _ _ (.inr hTT) ?_
    clear hK K
    try simp only [LS, Act.put]
    refine wpR_takeL (i := 14) (v := ?vy1_14) (fun _ => trivial) (by kernel_rfl) rfl (by kernel_rfl) (by kernel_rfl) (by kernel_rfl) (by kernel_rfl) (fun _ _ _ h => h) (Or.inl ⟨by rfl, ?hyy1_14⟩) hTT ?resty1_14
    case hyy1_14 => intro wq hSw; have q0 := fun i => hSw.1.cell i; have q1 := fun i => hSw.2.1.cell i; have q2 := hSw.2.2; go_simp <;> with_reducible rfl
    simp only [LS, Act.put]
    refine wpR_one (i := 15) (fun _ => trivial) rfl (by kernel_rfl) (fun K hK => ?_)
    have hfz := HFZ.out _ hown2
    have hcl := HCC.out _ hown2
    have hlg : g2 < w3.heap.size := (hown2.lt g2 rfl).2
    go_simp
    refine hK _ _ (.inl rfl) ?_
    clear hK K
    try simp only [LS, Act.put]
    refine wpR_done (by kernel_rfl) ?_ _
    clear hTT
    have hs2 := own_put hown2 (k := k * 2 + 1) (by omega) (.int .i64 (c + (edB l x : Int)))
    rw [HSET.out] at hs2
    have hne : g2 ≠ mb ∧ g2 ≠ w.heap.size ∧ g2 ≠ S1 ∧ g2 ≠ S1 + 1 := by have := (hown2.lt g2 rfl).1; omega
    have hOg : ¬ O g2 := fun h => by have := HOI.out.2.1 g2 h; have := (hown2.lt g2 rfl).1; omega
    have kV := hV.far (p := ⟨g2, k * 2 + 1, none⟩) (show S1 ≠ g2 by omega) (.int .i64 (c + (edB l x : Int)))
    have kX := hX.far (p := ⟨g2, k * 2 + 1, none⟩) (show w.heap.size ≠ g2 by omega) (.int .i64 (c + (edB l x : Int)))
    have kM := hM.far (p := ⟨g2, k * 2 + 1, none⟩) (show S1 + 1 ≠ g2 by omega) (.int .i64 (c + (edB l x : Int)))
    have ko := own_set hown (p := ⟨g2, k * 2 + 1, none⟩) (fun e => by have := HVL.out g2 e; have := (hown2.lt g2 rfl).1; omega) (.int .i64 (c + (edB l x : Int)))
    have km := hm3.set (p := ⟨g2, k * 2 + 1, none⟩) (show mb ≠ g2 by omega) (.int .i64 (c + (edB l x : Int)))
    have kG := hG.setCell (p := ⟨g2, k * 2 + 1, none⟩) (show w.heap.size ≤ g2 by have := (hown2.lt g2 rfl).1; omega) (.int .i64 (c + (edB l x : Int)))
    have kh := hh3.trans (Held.setCell (p := ⟨g2, k * 2 + 1, none⟩) hOg (.int .i64 (c + (edB l x : Int))))
    gi_wp2
    gi_roundg (L - (k + 1))
    case measure => rw [HG.out]; omega
    case rel => exact ⟨k + 1, rfl, by omega, by go_num, hs2, kV, kX, kM, ko, by rw [← HNK2.out]; exact km, kG, kh⟩
   ·obtain rfl : k = L := by omega
    have hge : ¬ (k : Int) < k := by omega
    have hall : updK x k R = R.map (updF x) := by rw [HL.out]; exact updK_all x R
    rw [hall] at hown2
    clear hall
    obtain ⟨Nk, hNk⟩ : ∃ Nk, Nk = N' + 605 * K + j * K2 + k * K := ⟨_, rfl⟩
    rw [← hNk] at hm
    have HNK := Lib.hid hNk; clear hNk
    gi_wp2
    refine wpIn_region_R (fun w' => Blk w' (S1 + 1) 3 #[.int .i64 (M0 : Int)]) 5 (by kernel_rfl) ?_
    have hheldD := Held.drew O WR; replace hX := hX.drew; replace hV := hV.drew; replace hM := hM.drew; replace hown : WR.drew.ownsRow w.heap.size 136 2 (.slice va k vc) k cells0 := hown; replace hown2 : WR.drew.ownsRow W2.heap.size 136 2 (.slice (some ⟨g2, 0, none⟩) k c2) k ((R.map (updF x)).flatMap RT.cells) := hown2; replace hm : Memo WR.drew mb Nk := hm; replace hG := hG.drew
    generalize WR.drew = WD at *
    have hTT : Blk WD (S1 + 1) 3 #[.int .i64 (M0 : Int)] := hM
    refine wpR_takeL (i := 0) (v := ?vy2_0) (fun _ => trivial) (by kernel_rfl) rfl (by kernel_rfl) (by kernel_rfl) (by kernel_rfl) (by kernel_rfl) (fun _ _ _ h => h) (Or.inl ⟨by rfl, ?hyy2_0⟩) hTT ?resty2_0
    case hyy2_0 => intro wq hSw; have q0 := fun i => hSw.cell i; go_simp <;> with_reducible rfl
    simp only [LS, Act.put]
    refine wpR_takeL (i := 1) (v := ?vy2_1) (fun _ => trivial) (by kernel_rfl) rfl (by kernel_rfl) (by kernel_rfl) (by kernel_rfl) (by kernel_rfl) (fun _ _ _ h => h) (Or.inl ⟨by rfl, ?hyy2_1⟩) hTT ?resty2_1
    case hyy2_1 => intro wq hSw; have q0 := fun i => hSw.cell i; go_simp <;> with_reducible rfl
    simp only [LS, Act.put]
    refine wpR_one (i := 2) (fun _ => trivial) rfl (by kernel_rfl) (fun K hK => ?_)
    go_simp
    refine ⟨trivial, (CallsIn.inRound l' (callsIn_wide.2 (least_rt (some ⟨g2, 0, none⟩) k c2 (R.map (updF x)) WD (by omega) hp (by exact Rd.of_own hown2)))).mono ?_⟩
    rintro e w5 ⟨v5, m5, rfl, hown5, hb5⟩
    have hh5 : Held O W2 w5 := (hHel.trans hheldD).trans (Held.of_below hb5)
    replace hX := hX.below hb5 hX.lt; replace hV := hV.below hb5 hV.lt; replace hM := hM.below hb5 hM.lt; replace hown := ownsRow_below' hown hb5; replace hm := hm.below hb5; replace hG := hG.trans (GB.of_below (hb5.mono hG.size))
    have h5l := hown5.1
    rw [flatRT_len] at h5l
    obtain rfl : m5 = (leastR (R.map (updF x))).length := by omega
    rw [← HL5.out] at hown5 h5l
    obtain ⟨va5, vc5, rfl⟩ := own_slice hown5
    replace hTT := hM
    clear hb5
    refine hK _ _ (.inr hTT) ?_
    clear hK K
    try simp only [LS, Act.put]
    refine wpR_takeL (i := 3) (v := ?vy2_3) (fun _ => trivial) (by kernel_rfl) rfl (by kernel_rfl) (by kernel_rfl) (by kernel_rfl) (by kernel_rfl) (fun _ _ _ h => h) (Or.inl ⟨by rfl, ?hyy2_3⟩) hTT ?resty2_3
    case hyy2_3 => intro wq hSw; have q0 := fun i => hSw.cell i; go_simp <;> with_reducible rfl
    simp only [LS, Act.put]
    refine wpR_one (i := 4) (fun _ => trivial) rfl (by kernel_rfl) (fun K hK => ?_)
    go_simp
    refine hK _ _ (.inr hTT) ?_
    clear hK K
    try simp only [LS, Act.put]
    refine wpR_one (i := 5) (fun _ => trivial) rfl (by kernel_rfl) (fun K hK => ?_)
    have q9 := hM.cell 0
    have f9 := hM.frozen 0
    have l9 := hM.lt
    go_simp
    refine hK _ _ (.inl rfl) ?_
    clear hK K
    try simp only [LS, Act.put]
    refine wpR_done (by kernel_rfl) ?_ _
    clear hTT
    have hne : S1 + 1 ≠ S1 ∧ w.heap.size ≠ S1 + 1 ∧ mb ≠ S1 + 1 := by omega
    have kM : Blk (w5.setCell ⟨S1 + 1, 0, none⟩ (.int .i64 (max (M0 : Int) (L5 : Int)))) (S1 + 1) 3 #[.int .i64 (max (M0 : Int) (L5 : Int))] := by simpa using hM.set_ 0 (.int .i64 (max (M0 : Int) (L5 : Int)))
    have kV := hV.far (p := ⟨S1 + 1, 0, none⟩) (show S1 ≠ S1 + 1 by omega) (.int .i64 (max (M0 : Int) (L5 : Int)))
    have kX := hX.far (p := ⟨S1 + 1, 0, none⟩) (show w.heap.size ≠ S1 + 1 by omega) (.int .i64 (max (M0 : Int) (L5 : Int)))
    have ko := own_set hown (p := ⟨S1 + 1, 0, none⟩) (fun e => by have := HVL.out (S1 + 1) e; omega) (.int .i64 (max (M0 : Int) (L5 : Int)))
    have km := hm.set (p := ⟨S1 + 1, 0, none⟩) (show mb ≠ S1 + 1 by omega) (.int .i64 (max (M0 : Int) (L5 : Int)))
    have hwS : w.heap.size ≤ S1 + 1 := by have := HS1W.out; omega
    have kG := hG.setCell (p := ⟨S1 + 1, 0, none⟩) hwS (.int .i64 (max (M0 : Int) (L5 : Int)))
    have kh := hh5.trans (Held.setCell (p := ⟨S1 + 1, 0, none⟩) hOM (.int .i64 (max (M0 : Int) (L5 : Int))))
    have hmx : (max (M0 : Int) (L5 : Int)) = ((maxAfter R (pre ++ [x]) : Nat) : Int) := by
     rw [HMA.out, ← HM0.out, ← HL5.out]
     rcases Nat.le_total M0 L5 with h | h
     ·rw [Nat.max_eq_right h, Int.max_eq_right (by omega)]
     ·rw [Nat.max_eq_left h, Int.max_eq_left (by omega)]
    rw [hmx] at kM kV kX ko km kG kh ⊢
    gi_wp2
    refine ⟨kh, kV, kX, kM, ko, ?_, kG, HOI.out.held kh⟩
    rw [List.length_append, ← HJ.out]
    refine km.mono ?_
    have := HNK.out
    have h2 := HNJ2.out
    have h3 : k * K ≤ 121 * K := Nat.mul_le_mul_right _ hl
    simp only [List.length_singleton]
    omega
 case hdone =>
  rintro D xs O Z hD hOD rfl ⟨h1, h2, hp2, h3, h4, h5, h6⟩ hd
  have qV := fun i => hp2.cell i
  have hlV := hp2.lt
  gi_wp2
  refine leaves_marks [D] Z (by simp) (fun E hE => by rw [List.mem_singleton.1 hE]; exact hd) (fun w' hw' => ?_)
  have hO1 : ∀ k, k ∈ [D] → S1 + 1 + 1 ≤ k := fun k hk => by rw [List.mem_singleton.1 hk]; have := HSZ.out; omega
  refine ⟨_, results_tmp rfl _ _ _, rfl, (hw'.memo h4 (fun h => by have := hO1 _ h; omega)).mono (by have := Nat.mul_le_mul_right K2 hle; have := HK2.out; omega), Off.gb h5 hw' (fun k hk => by have := hO1 k hk; omega) (by have := h6.2.2; omega)⟩
end
section
open Go.RowKit Go.Lib Go.Maps
def subL : List UInt8 → List UInt8 → List UInt8
 | [], o => o
 | _ :: _, [] => []
 | x :: xs, y :: ys => if x = y then subL xs ys else subL xs (y :: ys)
theorem subL_nil (l : List UInt8) : subL l [] = [] := by cases l <;> rfl
def hasW (l o : ByteArray) : Bool := (subL l.data.toList o.data.toList).isEmpty
theorem subL_step {x : UInt8} {xs : List UInt8} {o : ByteArray} (ho : 0 < o.size) : subL (x :: xs) o.data.toList = if x = hd o then subL xs (tl o).data.toList else subL xs o.data.toList := by
 rw [tl_list]
 have : o.size = o.data.toList.length := rfl
 unfold hd
 cases h : o.data.toList with
 | nil => rw [h, List.length_nil] at this; omega
 | cons y ys => rfl
theorem isE (o : ByteArray) : o.toList.isEmpty = decide (o.size = 0) := by
 by_cases h : 0 < o.size
 ·rw [List.isEmpty_eq_false_iff.2 (ne_empty h), decide_eq_false (by omega)]
 ·rw [size0 h, ByteArray.toList_eq]; rfl
theorem has_any (l o : ByteArray) (w : World) (hl : l.size ≤ 100000) :
  Calls Tryz.prog 140 #[.string l, .string o] w fun e w' => e = .returned (.bool (hasW l o)) ∧ Below w.heap.size w w' := by
 obtain ⟨R, hR⟩ : ∃ R, R = hasW l o := ⟨_, rfl⟩
 rw [← hR]
 have HR := Lib.hid hR; clear hR
 go_enter Tryz.func140, Tryz.ntmps140
 go_wp2_with fail
 go_loopg [1, 5] l.size (fun g ov i wr => ∃ (k : Nat) (o2 : ByteArray), g = l.size - k ∧ k ≤ l.size ∧ ov = .string o2 ∧ i = .int .i64 k ∧ Hid (R = (subL (l.data.toList.drop k) o2.data.toList).isEmpty) ∧ Below w.heap.size w wr)
 case atStart => exact ⟨0, o, rfl, Nat.zero_le _, rfl, rfl, Lib.hid (by rw [HR.out]; rfl), Below.refl _ _⟩
 case round =>
  obtain ⟨k, o2, hg, hk, rfl, rfl, hrr, hB⟩ := hrel
  rename World => wr
  have HG := Lib.hid hg; clear hg
  have hie := isE o2
  have hie2 : (o2.toList == []) = decide (o2.size = 0) := by rw [← hie]; cases o2.toList <;> rfl
  by_cases hlt : k < l.size
  ·have hlti : (k : Int) < l.size := by omega
   by_cases ho2 : 0 < o2.size
   ·rw [decide_eq_false (by omega)] at hie hie2
    have hstep : R = (if (l[k]'hlt) = hd o2 then subL (l.data.toList.drop (k + 1)) (tl o2).data.toList else subL (l.data.toList.drop (k + 1)) o2.data.toList).isEmpty := by
     rw [hrr.out, List.drop_eq_getElem_cons (show k < l.data.toList.length from hlt), subL_step ho2]
     rfl
    have HSTEP := Lib.hid hstep; clear hstep
    have ho2i : (1 : Int) ≤ o2.size := by omega
    have ho2j : (0 : Int) < o2.size := by omega
    have ht : o2.extract 1 o2.size = tl o2 := rfl
    go_upto_region 4 with fail
    rename World => WR
    refine wp_region_G (fun _ => True) 6 (by kernel_rfl) ?_
    replace hB := hB.drew
    generalize WR.drew = WD at *
    have hTT : True := trivial
    refine tk2 0 (v := ?_) rfl rfl (Or.inl ⟨by rfl, ?h⟩) hTT ?_
    case h => intro wq hSw; have f0 := hd_eq o2 ho2; have f1 := hlt; have f2 := ho2; go_simp <;> with_reducible rfl
    simp only [LS, Act.put]
    refine tk2 1 (v := ?_) rfl rfl (Or.inl ⟨by rfl, ?h⟩) hTT ?_
    case h => intro wq hSw; have f0 := hd_eq o2 ho2; have f1 := hlt; have f2 := ho2; go_simp <;> with_reducible rfl
    simp only [LS, Act.put]
    refine tk2 2 (v := ?_) rfl rfl (Or.inl ⟨by rfl, ?h⟩) hTT ?_
    case h => intro wq hSw; have f0 := hd_eq o2 ho2; have f1 := hlt; have f2 := ho2; go_simp <;> with_reducible rfl
    simp only [LS, Act.put]
    refine tk2 3 (v := ?_) rfl rfl (Or.inl ⟨by rfl, ?h⟩) hTT ?_
    case h => intro wq hSw; have f0 := hd_eq o2 ho2; have f1 := hlt; have f2 := ho2; go_simp <;> with_reducible rfl
    simp only [LS, Act.put]
    refine tk2 4 (v := ?_) rfl rfl (Or.inl ⟨by rfl, ?h⟩) hTT ?_
    case h => intro wq hSw; have f0 := hd_eq o2 ho2; have f1 := hlt; have f2 := ho2; go_simp <;> with_reducible rfl
    simp only [LS, Act.put]
    refine o1 5 rfl fun K hK => ?_
    go_simp
    refine hK _ _ (.inr hTT) ?_
    clear hK K
    try simp only [LS, Act.put]
    refine wpG_done (by kernel_rfl) ?_ _
    clear hTT
    obtain ⟨x, hx⟩ : ∃ x, x = l[k]'hlt := ⟨_, rfl⟩
    by_cases he : l[k]'hlt = hd o2
    ·have he1 : (((l[k]'hlt).toNat : Int) == ((hd o2).toNat : Int)) = true := by rw [he]; simp
     have HE := Lib.hid he; clear he
     go_wp2_with fail
     go_roundg (l.size - (k + 1))
     case measure => rw [HG.out]; omega
     case rel => exact ⟨k + 1, tl o2, rfl, by omega, rfl, by go_num, Lib.hid (by rw [HSTEP.out, if_pos HE.out]), hB⟩
    ·have he1 : (((l[k]'hlt).toNat : Int) == ((hd o2).toNat : Int)) = false := by rw [beq_eq_false_iff_ne]; exact fun e => he (UInt8.toNat_inj.1 (by omega))
     have HE := Lib.hid he; clear he
     go_wp2_with fail
     go_roundg (l.size - (k + 1))
     case measure => rw [HG.out]; omega
     case rel => exact ⟨k + 1, o2, rfl, by omega, rfl, by go_num, Lib.hid (by rw [HSTEP.out, if_neg HE.out]), hB⟩
   ·rw [decide_eq_true (by omega)] at hie hie2
    have hf : R = true := by rw [hrr.out, size0 ho2]; show (subL _ []).isEmpty = true; rw [subL_nil]; rfl
    have HF := Lib.hid hf; clear hf
    go_wp2_with fail
    go_ret
    exact ⟨by rw [HF.out]; rfl, hB⟩
  ·obtain rfl : k = l.size := by omega
   have hge : ¬ (l.size : Int) < l.size := by omega
   have hf : R = decide (o2.size = 0) := by
    rw [hrr.out, show l.data.toList.drop l.size = [] from List.drop_eq_nil_of_le (Nat.le_refl _), ← hie]
    show o2.data.toList.isEmpty = _
    by_cases h : 0 < o2.size
    ·rw [hie, decide_eq_false (by omega), List.isEmpty_eq_false_iff]; intro e; have : o2.size = o2.data.toList.length := rfl; rw [e, List.length_nil] at this; omega
    ·rw [size0 h, ByteArray.toList_eq]
   have HF := Lib.hid hf; clear hf
   by_cases h0 : o2.size = 0
   all_goals
    simp only [h0, decide_true, decide_false] at hie hie2
    have HH := Lib.hid h0; clear h0
    go_wp2_with fail
    go_ret
    exact ⟨by rw [HF.out]; simp [HH.out], hB⟩
theorem lacks_any (other l : ByteArray) (b : Nat) (w : World) (hl : other.size ≤ 100000) (h : Blk w b 121 #[.string l]) :
  Calls Tryz.prog 139 #[.string other, .pointer (some ⟨b, 0, none⟩)] w fun e w' => e = .returned (.bool (!hasW other l)) ∧ Below w.heap.size w w' := by
 have qX := fun i => h.cell i
 have hh := has_any other l w hl
 have HH := Lib.hid hh; clear hh
 go_enter Tryz.func139, Tryz.ntmps139
 go_wp2_with (go_at_call 140; refine HH.out.mono ?_; rintro e w1 ⟨rfl, hb⟩)
 go_ret
 exact ⟨rfl, hb⟩
end
section
open Go.RowKit Go.Lib Go.Maps Go.Shelf
attribute [local go_sem] Oper.semAt_some
def descT (wn q : Nat) : List ByteArray := (List.range q).flatMap fun k => (allLs (4 - k) wn).map lbS
def descL (wn : Nat) : List ByteArray := descT wn 5
def allHave (ls : List ByteArray) (s : ByteArray) : Bool := !(ls.any fun o => !hasW o s)
def commonS (wn : Nat) (ls : List ByteArray) : ByteArray := ((descL wn).find? (allHave ls)).getD ⟨#[]⟩
theorem descT_succ (wn q : Nat) : descT wn (q + 1) = descT wn q ++ (allLs (4 - q) wn).map lbS := by unfold descT; rw [List.range_succ, List.flatMap_append]; simp
theorem descT_pre (wn : Nat) {q m : Nat} (h : q ≤ m) : descT wn q <+: descT wn m := by
 obtain ⟨d, rfl⟩ := Nat.exists_eq_add_of_le h
 unfold descT
 rw [List.range_add, List.flatMap_append]
 exact List.prefix_append _ _
theorem common_of {wn : Nat} {ls A : List ByteArray} {s : ByteArray} (h1 : ∀ x ∈ A, allHave ls x = false) (h2 : allHave ls s = true) (h : A ++ [s] <+: descL wn) : commonS wn ls = s := by
 obtain ⟨R, hR⟩ := h
 unfold commonS
 rw [← hR, List.append_assoc, List.find?_append, List.find?_eq_none.2 (fun x hx => by rw [h1 x hx]; decide)]
 simp [h2]
theorem common_none {wn : Nat} {ls : List ByteArray} (h1 : ∀ x ∈ descL wn, allHave ls x = false) : commonS wn ls = ⟨#[]⟩ := by
 unfold commonS
 rw [List.find?_eq_none.2 (fun x hx => by rw [h1 x hx]; decide)]
 rfl
def Mks (lo : Nat) (Dl : List Nat) (W : World) : Prop := Dl.Nodup ∧ ∀ D ∈ Dl, lo ≤ D ∧ W.heap[D]? = some (.deferred (some []))
theorem Mks.lt {lo : Nat} {Dl : List Nat} {W : World} (h : Mks lo Dl W) : ∀ D ∈ Dl, D < W.heap.size := fun D hD => (Array.getElem?_eq_some_iff.1 (h.2 D hD).2).1
theorem Mks.off {lo b : Nat} {O : Nat → Prop} {Dl : List Nat} {A B : World} (h : Mks lo Dl A) (ho : Off O A B) (hO : ∀ k, O k → b ≤ k) (hl : ∀ D ∈ Dl, D < b) : Mks lo Dl B :=
 ⟨h.1, fun D hD => ⟨(h.2 D hD).1, (ho.block D (h.lt D hD) (fun hk => by have := hO D hk; have := hl D hD; omega)).trans (h.2 D hD).2⟩⟩
theorem Mks.below {lo : Nat} {Dl : List Nat} {A B : World} (h : Mks lo Dl A) (hb : Below A.heap.size A B) : Mks lo Dl B := ⟨h.1, fun D hD => ⟨(h.2 D hD).1, (hb.block D (h.lt D hD)).trans (h.2 D hD).2⟩⟩
theorem Mks.set {lo : Nat} {Dl : List Nat} {A : World} (h : Mks lo Dl A) {p : Addr} (hp : p.block < lo) (u : Value) : Mks lo Dl (A.setCell p u) :=
 ⟨h.1, fun D hD => ⟨(h.2 D hD).1, (Below.heap_setCell A p u D (by have := (h.2 D hD).1; omega)).trans (h.2 D hD).2⟩⟩
theorem common_any (wn : Nat) (A : Option Addr) (n cap : Nat) (ls : List ByteArray) (w : World) (hw3 : wn ≤ 3) (hn : n ≤ 100000) (hr : Rd w w.heap.size 1 A n (ls.map Value.string)) (hls : ∀ o ∈ ls, o.size ≤ 100000) :
  Calls Tryz.prog 93 #[.slice A n cap, .int .i64 (wn : Int)] w fun e w' => e = .returned (.string (commonS wn ls)) ∧ Below w.heap.size w w' := by
 have hmf : ∀ (fn : Fn) (first cap : Array Value) (w : World), (Instr.makeFunc fn first cap).run Tryz.prog w = .ok (.func fn first cap) w := fun _ _ _ _ => rfl
 have hct := fun (wx : World) (b : Nat) (s : ByteArray) (hx : Below w.heap.size w wx) (hb : Blk wx b 121 #[.string s]) => contains_str 139 (.pointer (some ⟨b, 0, none⟩)) (fun o => !hasW o s) A n cap ls wx (by unfold maxLen; omega) (rdB hr hx) (fun _ _ => rfl) (Lib.hid fun o ho wy hy => lacks_any o s b wy (hls o ho) (hb.below hy hb.lt))
 have HCT := Lib.hid hct; clear hct
 refine (callsIn_wide (n := 9)).1 ?_
 refine callsIn_of_wp_marks Tryz.func93 rfl trivial ?_ rfl
 simp only [Tryz.ntmps93, List.size_toArray, List.length_cons, List.length_nil, Nat.reduceAdd, Nat.reduceSub, Array.replicate_succ, Array.replicate_zero, List.push_toArray, List.append_toArray, List.nil_append, List.cons_append]
 gi_wp2
 refine wpIn_wide.2 (wp_scope_straight ((wpIn_wide (n := 9)).1 ?_))
 gi_wp2
 refine wpIn_label ?_
 gi_wp2
 have hX := (Blk.new w 128 #[.slice A n cap]).alloc (.cells #[.string ⟨#[]⟩] 121)
 have hV := blk2_1 w (.cells #[.slice A n cap] 128) 121 #[.string ⟨#[]⟩]
 have hB : Below w.heap.size w ((w.alloc (.cells #[.slice A n cap] 128)).alloc (.cells #[.string ⟨#[]⟩] 121)) := ((Below.refl _ w).alloc (Nat.le_refl _) _).alloc (by simp only [World.size_alloc]; omega) _
 have hsz : ((w.alloc (.cells #[.slice A n cap] 128)).alloc (.cells #[.string ⟨#[]⟩] 121)).heap.size = w.heap.size + 1 + 1 := by simp only [World.size_alloc]
 generalize ((w.alloc (.cells #[.slice A n cap] 128)).alloc (.cells #[.string ⟨#[]⟩] 121)) = w1 at *
 refine wpIn_loop_ghost_k (fun g a wr => ∃ (q : Nat) (Dl : List Nat) (u6 u10 u11 u12 u13 u14 u15 u24 : Value), g = 5 - q ∧ q ≤ 5 ∧ (∀ x ∈ descT wn q, allHave ls x = false) ∧ Blk wr w.heap.size 128 #[.slice A n cap] ∧ Blk wr (w.heap.size + 1) 121 #[.string ⟨#[]⟩] ∧ Below w.heap.size w wr ∧ Mks (w.heap.size + 1 + 1) Dl wr ∧ w.heap.size + 1 + 1 ≤ wr.heap.size ∧
   a = { tmps := #[.slice A n cap, .int .i64 (wn : Int), .pointer (some ⟨w.heap.size, 0, none⟩), undef, .string ⟨#[]⟩, .pointer (some ⟨w.heap.size + 1, 0, none⟩), u6, undef, undef, .int .i64 (q : Int), u10, u11, u12, u13, u14, u15, undef, undef, undef, undef, undef, undef, undef, undef, u24, undef], defers := Dl.map mkD }) 5 ?start ?round
 case start => exact ⟨0, [], undef, undef, undef, undef, undef, undef, undef, undef, rfl, Nat.zero_le _, fun x hx => by simp [descT] at hx, hX, hV, hB, ⟨List.nodup_nil, fun D h => by cases h⟩, by omega, rfl⟩
 case round =>
  clear hX hV hB hsz
  rintro g a wr ⟨q, Dl, u6, u10, u11, u12, u13, u14, u15, u24, hg, hq, hno, hX, hV, hB, hMk, hszr, rfl⟩ Jr Kr hJr hKr
  have HG := Lib.hid hg; clear hg
  by_cases hlt : q < 5
  ·have hlti : (q : Int) < 5 := by omega
   have hw1 : IntKind.i64.wrap (4 - (q : Int)) = ((4 - q : Nat) : Int) := by rw [IntWalk.i64_in _ (by omega)]; omega
   have HNO := Lib.hid hno; clear hno
   gi_wp2_with (refine ⟨trivial, (callsIn_wide.2 (lists_any ((4 - q : Nat) : Int) (wn : Int) wr)).mono ?_⟩; rintro e w' ⟨rfl, rfl⟩)
   obtain ⟨w2, hw2⟩ : ∃ w2 : World, w2 = (wr.alloc (.cells #[.int .i64 ((4 - q : Nat) : Int)] 3)).alloc (.cells #[.int .i64 (wn : Int)] 3) := ⟨_, rfl⟩
   have hM2 := (Blk.new wr 3 #[.int .i64 ((4 - q : Nat) : Int)]).alloc (.cells #[.int .i64 (wn : Int)] 3)
   have hL2 := blk2_1 wr (.cells #[.int .i64 ((4 - q : Nat) : Int)] 3) 3 #[.int .i64 (wn : Int)]
   have hb2 : Below wr.heap.size wr w2 := by rw [hw2]; exact ((Below.refl _ _).alloc (Nat.le_refl _) _).alloc (by simp only [World.size_alloc]; omega) _
   have hsz2 : w2.heap.size = wr.heap.size + 1 + 1 := by rw [hw2]; simp only [World.size_alloc]
   rw [← hw2] at hM2 hL2 ⊢
   clear hw2 hw1
   replace hX := hX.below hb2 hX.lt; replace hV := hV.below hb2 hV.lt; replace hB := hB.trans (hb2.mono hB.size); have hMl := hMk.lt; replace hMk := hMk.below hb2
   have HSZ2 := Lib.hid hsz2; have HML := Lib.hid hMl; clear hsz2 hb2 hMl
   refine wpIn_rangeO (F := Fence.wide) (n := 9) (w0 := w2) (Pre := fun ys => ys.map Prod.fst <+: allLs (4 - q) wn) (S := fun ys => ys.map Prod.fst = allLs (4 - q) wn) (O0 := fun k => k = wr.heap.size ∨ k = wr.heap.size + 1) (Good := GoodL (4 - q) wn) (encs := fun x : LV => #[x.2]) rfl (by omega) (gf := 182) (lb := #[.pointer (some ⟨wr.heap.size, 0, none⟩), .pointer (some ⟨wr.heap.size + 1, 0, none⟩)]) rfl trivial (enters_of Tryz.func182 (by kernel_rfl) rfl)
    (fun k h => by have := HSZ2.out; omega) (lists_seq (4 - q) wn wr.heap.size (wr.heap.size + 1) _ (by omega) (by omega) w2 hM2 hL2) (Below.refl _ _) (fun _ => rfl)
    (fun (pre : List LV) O Z => (∀ z ∈ pre, allHave ls (lbS z.1) = false) ∧ Blk Z w.heap.size 128 #[.slice A n cap] ∧ Blk Z (w.heap.size + 1) 121 #[.string ⟨#[]⟩] ∧ Below w.heap.size w Z ∧ Mks (w.heap.size + 1 + 1) Dl Z ∧ OIn wr.heap.size O Z)
    (fun c (pre : List LV) O Z => c = .exit 0 ∧ Blk Z (w.heap.size + 1) 121 #[.string (commonS wn ls)] ∧ Below w.heap.size w Z ∧ Mks (w.heap.size + 1 + 1) Dl Z ∧ OIn wr.heap.size O Z)
    ?hI ?hIx ?h0 ?hround ?hdone ?hstop
   case hI =>
    rintro s O O' P0 Q0 ⟨h0, h1, h2, h3, h4, h5⟩ ho hO'
    exact ⟨h0, ho.blk h1 (fun h => by have := h5.1 _ h; omega), ho.blk h2 (fun h => by have := h5.1 _ h; omega), h3.trans (ho.below (fun k h => by have := h5.1 _ h; omega) h3.size), h4.off ho h5.1 HML.out, h5.off ho hO'⟩
   case hIx =>
    rintro c s O O' P0 Q0 ⟨h0, h2, h3, h4, h5⟩ ho hO'
    exact ⟨h0, ho.blk h2 (fun h => by have := h5.1 _ h; omega), h3.trans (ho.below (fun k h => by have := h5.1 _ h; omega) h3.size), h4.off ho h5.1 HML.out, h5.off ho hO'⟩
   case h0 =>
    intro W3 hb3 hs3
    have hs := HSZ2.out
    exact ⟨fun z hz => (by cases hz), hX.below hb3 hX.lt, hV.below hb3 hV.lt, hB.trans (hb3.mono hB.size), hMk.below hb3, fun k h => by omega, fun k h => by omega, by omega⟩
   case hround =>
    rintro l' pre x O W0' W1' K1 hOl ⟨h0, h1, h2, h3, h4, h5⟩ ho ⟨hx, hxb⟩ hpr hK1
    simp only [List.zip_toArray, List.zip_cons_cons, List.zip_nil_right, List.foldl_toArray', List.foldl_toArray, List.foldl_cons, List.foldl_nil, List.setIfInBounds_toArray, List.set_cons_succ, List.set_cons_zero, List.size_toArray, List.length_cons, List.length_nil]
    gi_wp2
    refine hK1 _ _ (Held.refl _ _) (fun W2 ho2 hsz2 => ?_)
    obtain ⟨xs, v⟩ := x
    dsimp only at hx hxb ⊢
    have hoo := ho.trans ho2
    have hx2 := ho2.own hx (fun g hg hO => by have := h5.2.1 g hO; have := (hx.lt g hg).1; omega)
    have hX := hoo.blk h1 (fun h => by have := h5.1 _ h; omega)
    have hV := hoo.blk h2 (fun h => by have := h5.1 _ h; omega)
    have hB := h3.trans (hoo.below (fun k h => by have := h5.1 _ h; omega) h3.size)
    have hM := h4.off hoo h5.1 HML.out
    have hOI := h5.off hoo (O' := O) (fun k h => .inl h)
    have hpr2 : descT wn q ++ pre.map (fun z => lbS z.1) ++ [lbS xs] <+: descL wn := by
     obtain ⟨R, hR⟩ := hpr
     rw [List.append_assoc]
     refine List.IsPrefix.trans ?_ (descT_pre wn (show q + 1 ≤ 5 by omega))
     rw [descT_succ, ← hR]
     exact (List.prefix_append_right_inj _).2 ⟨R.map lbS, by simp⟩
    have hno2 : ∀ y ∈ descT wn q ++ pre.map (fun z => lbS z.1), allHave ls y = false := fun y hy => by
     rcases List.mem_append.1 hy with h | h
     ·exact HNO.out y h
     ·obtain ⟨z, hz, rfl⟩ := List.mem_map.1 h; exact h0 z hz
    have hcm := fun (h : allHave ls (lbS xs) = true) => common_of hno2 h hpr2
    have HOI := Lib.hid hOI; have HXB : Hid (∀ y ∈ xs, 0 ≤ y ∧ y ≤ 255) := Lib.hid (fun y hy => by have := hxb y hy; omega)
    have HH0 := Lib.hid h0; have HM := Lib.hid hM; have HCM := Lib.hid hcm
    have hOn : ∀ k, k < wr.heap.size → ¬ O k := fun k hk h => by have := hOI.1 k h; omega
    have HON := Lib.hid hOn
    clear h0 h1 h2 h3 h4 h5 ho ho2 hsz2 hoo hOI hK1 hpr hpr2 hno2 hcm hxb hx hM hOn
    obtain ⟨vA, vc, rfl⟩ := own_slice hx2
    have hrd := Rd.of_own hx2
    have hszB := hB.size
    obtain ⟨bad, hbad⟩ : ∃ bad, bad = ls.any fun o => !hasW o (lbS xs) := ⟨_, rfl⟩
    have HBAD := Lib.hid hbad
    have hfn := fun (W : World) => (Blk.new W 121 #[.string ⟨#[]⟩]).frozen 0
    clear hbad
    cases bad
    · -- all of them have it
     gi_wp2_with (first
       | (refine ⟨trivial, ?_⟩; gi_at_call 84; refine (CallsIn.inRound l' (callsIn_wide.2 (lineOf_any vA (4 - q) vc xs W2 (by omega) HXB.out hrd))).mono ?_; rintro e w3 ⟨rfl, hb3⟩; have hX3 := hX.below hb3 hX.lt; have hV3 := hV.below hb3 hV.lt; have hB3 := hB.trans (hb3.mono hB.size); have qX := fun i => hX3.cell i; have hlX := hX3.lt; have hlV := hV3.lt)
       | (refine ⟨trivial, ?_⟩; gi_at_call 138; refine (CallsIn.inRound l' (callsIn_wide.2 (HCT.out _ _ (lbS xs) (hB3.alloc hB3.size (.cells #[.string (lbS xs)] 121)) (Blk.new _ 121 #[.string (lbS xs)])))).mono ?_; rintro e w4 ⟨rfl, hb4⟩; rw [← HBAD.out]; have hV4 := (hV3.alloc (.cells #[.string (lbS xs)] 121)).below hb4 (by have := hV3.lt; rw [World.size_alloc]; omega); have hL4 := (Blk.new w3 121 #[.string (lbS xs)]).below hb4 (by rw [World.size_alloc]; omega); clear qX; have qL := fun i => hL4.cell i; have qV := fun i => hV4.cell i; have hlV4 := hV4.lt; have hlL4 := hL4.lt; have hfz := hV4.frozen 0))

     have hall : allHave ls (lbS xs) = true := by unfold allHave; rw [← HBAD.out]; rfl
     have hB4 := (hB3.alloc hB3.size (.cells #[.string (lbS xs)] 121)).trans (hb4.mono (by rw [World.size_alloc]; have := hB3.size; omega))
     have hh4 : Held O W2 w4 := ((Held.of_below hb3).trans (Held.alloc O w3 (.cells #[.string (lbS xs)] 121))).trans (Held.of_below hb4)
     have hM4 := ((HM.out.below hb3).below ((Below.refl _ w3).alloc (Nat.le_refl _) (.cells #[.string (lbS xs)] 121))).below hb4
     have kh := hh4.trans (Held.setCell (p := ⟨w.heap.size + 1, 0, none⟩) (HON.out _ (show w.heap.size + 1 < wr.heap.size by omega)) (.string (lbS xs)))
     refine ⟨kh, rfl, ?_, hB4.setCell (p := ⟨w.heap.size + 1, 0, none⟩) (show w.heap.size ≤ w.heap.size + 1 by omega) _, hM4.set (p := ⟨w.heap.size + 1, 0, none⟩) (show w.heap.size + 1 < w.heap.size + 1 + 1 by omega) _, HOI.out.held kh⟩
     rw [HCM.out hall]
     simpa using hV4.set_ 0 (.string (lbS xs))
    ·gi_wp2_with (first
       | (refine ⟨trivial, ?_⟩; gi_at_call 84; refine (CallsIn.inRound l' (callsIn_wide.2 (lineOf_any vA (4 - q) vc xs W2 (by omega) HXB.out hrd))).mono ?_; rintro e w3 ⟨rfl, hb3⟩; have hX3 := hX.below hb3 hX.lt; have hV3 := hV.below hb3 hV.lt; have hB3 := hB.trans (hb3.mono hB.size); have qX := fun i => hX3.cell i; have hlX := hX3.lt; have hlV := hV3.lt)
       | (refine ⟨trivial, ?_⟩; gi_at_call 138; refine (CallsIn.inRound l' (callsIn_wide.2 (HCT.out _ _ (lbS xs) (hB3.alloc hB3.size (.cells #[.string (lbS xs)] 121)) (Blk.new _ 121 #[.string (lbS xs)])))).mono ?_; rintro e w4 ⟨rfl, hb4⟩; rw [← HBAD.out]))
     have hall : allHave ls (lbS xs) = false := by unfold allHave; rw [← HBAD.out]; rfl
     have hB4 := (hB3.alloc hB3.size (.cells #[.string (lbS xs)] 121)).trans (hb4.mono (by rw [World.size_alloc]; have := hB3.size; omega))
     have hh4 : Held O W2 w4 := ((Held.of_below hb3).trans (Held.alloc O w3 (.cells #[.string (lbS xs)] 121))).trans (Held.of_below hb4)
     have hM4 := ((HM.out.below hb3).below ((Below.refl _ w3).alloc (Nat.le_refl _) (.cells #[.string (lbS xs)] 121))).below hb4
     refine ⟨hh4, fun z hz => ?_, (hX3.alloc _).below hb4 (by rw [World.size_alloc]; omega), (hV3.alloc _).below hb4 (by rw [World.size_alloc]; omega), hB4, hM4, HOI.out.held hh4⟩
     rcases List.mem_append.1 hz with h | h
     ·exact HH0.out z h
     ·rw [List.mem_singleton.1 h]; exact hall
   case hdone =>
    rintro D zs O W3 hD hOD hS ⟨h0, h1, h2, h3, h4, h5⟩ hd
    gi_wp2
    refine Handed.intro (5 - (q + 1)) ?_ ?_
    ·rw [HG.out]; omega
    ·refine hJr _ _ _ ⟨q + 1, D :: Dl, _, _, _, _, _, _, _, _, rfl, by omega, ?_, h1, h2, h3, ⟨List.nodup_cons.2 ⟨fun hm => ?_, h4.1⟩, ?_⟩, by have := h5.2.2; omega, rfl⟩
     ·intro y hy
      rw [descT_succ] at hy
      rcases List.mem_append.1 hy with h | h
      ·exact HNO.out y h
      ·obtain ⟨z, hz, rfl⟩ := List.mem_map.1 h
       rw [← hS] at hz
       obtain ⟨u, hu, rfl⟩ := List.mem_map.1 hz
       exact h0 u hu
     ·have := HML.out D hm; have := HSZ2.out; omega
     ·intro E hE
      rcases List.mem_cons.1 hE with rfl | hE
      ·exact ⟨by have := HSZ2.out; omega, hd⟩
      ·exact h4.2 E hE
   case hstop =>
    rintro D c pre O W3 hD hOD ⟨rfl, h2, h3, h4, h5⟩ hd
    have qV := fun i => h2.cell i
    have hlV := h2.lt
    gi_wp2
    refine leaves_marks (D :: Dl) W3 (List.nodup_cons.2 ⟨fun hm => ?_, h4.1⟩) ?_ ?_
    ·have := HML.out D hm; have := HSZ2.out; omega
    ·intro E hE
     rcases List.mem_cons.1 hE with rfl | hE
     ·exact hd
     ·exact (h4.2 E hE).2
    ·intro w' hw'
     refine ⟨_, results_tmp rfl _ _ _, rfl, h3.trans (hw'.below ?_ h3.size)⟩
     intro k hk
     rcases List.mem_cons.1 hk with rfl | hk
     ·have := HSZ2.out; omega
     ·have := (h4.2 k hk).1; omega
  ·obtain rfl : q = 5 := by omega
   have qV := fun i => hV.cell i
   have hlV := hV.lt
   gi_wp2
   refine leaves_marks Dl wr hMk.1 (fun D hD => (hMk.2 D hD).2) (fun w' hw' => ?_)
   refine ⟨_, results_tmp rfl _ _ _, by rw [common_none hno]; rfl, hB.trans (hw'.below (fun k hk => by have := (hMk.2 k hk).1; omega) hB.size)⟩
end
section
open Go.RowKit Go.Lib
def Rows (w : World) (B : Nat) (rs : List RI) (ls : List ByteArray) : Prop := rs.map RI.ws = ls.map nwL ∧ ∀ r ∈ rs, w.ownsRow B 3 1 r.val r.n (r.ws.map (Value.int .i64)) ∧ NilIf r.n r.val
theorem wordsOf_any (A : Option Addr) (n cap : Nat) (ls : List ByteArray) (w : World) (hn : n ≤ 1000000) (hs : ∀ l ∈ ls, l.size ≤ 1000) (hr : Rd w w.heap.size 1 A n (ls.map Value.string)) :
  Calls Tryz.prog 87 #[.slice A n cap] w fun e w' => ∃ v rs, e = .returned v ∧ w'.ownsRow w.heap.size 25 1 v n (rs.map RI.val) ∧ Rows w' w.heap.size rs ls ∧ NilIf n v ∧ Below w.heap.size w w' := by
 obtain ⟨i25, hi, hz0, hz1', hz2'⟩ := info_parts info25
 have hlen : ls.length = n := by simpa using hr.len
 have HL := Lib.hid hlen; have HS := Lib.hid hs; clear hlen hs
 go_enter Tryz.func87, Tryz.ntmps87
 go_wp2_with fail
 go_loopg [3, 8] n (fun g v i wr => ∃ (k : Nat) (v0 : Value) (rs : List RI), g = n - k ∧ k ≤ n ∧ v = v0 ∧ i = .int .i64 k ∧ wr.ownsRow w.heap.size 25 1 v0 k (rs.map RI.val) ∧ Hid (Rows wr w.heap.size rs (ls.take k)) ∧ Hid (k = 0 → v0 = .slice none 0 0) ∧ Below w.heap.size w wr)
 case atStart => exact ⟨0, _, [], rfl, Nat.zero_le _, rfl, rfl, World.ownsRow_nil _ _ _ _, Lib.hid ⟨rfl, fun r h => absurd h (List.not_mem_nil)⟩, Lib.hid (fun _ => rfl), Below.refl _ _⟩
 case round =>
  obtain ⟨k, v0, rs, hg, hk, rfl, rfl, hown, hrows, hnil, hB⟩ := hrel
  rename World => wr
  obtain ⟨va, vc, rfl⟩ := own_slice hown
  have HG := Lib.hid hg; clear hg
  by_cases hlt : k < n
  ·have hlti : (k : Int) < n := by omega
   obtain ⟨b, off, hz, rfl, hb, hc0⟩ := (hr.below hB).atm hlt
   have htk : ls.take (k + 1) = ls.take k ++ [ls[k]] := List.take_succ_eq_append_getElem hz
   have hsz := HS.out _ (List.getElem_mem hz)
   have HTK := Lib.hid htk; clear htk
   generalize ls[k] = l at *
   have hwd := words_any l wr (by omega)
   have hBs := hB.size
   go_wp2_with (first
     | (go_at_call 94; refine hwd.mono ?_; rintro e w1 ⟨vr, rfl, hownr, hnr, hb1⟩; obtain ⟨ra, rc, rfl⟩ := own_slice hownr; clear hwd)
     | (at_builtin; refine wpList_append_any _ rfl _ _ 46 rfl w.heap.size 25 i25 (.slice none 0 0) 1 24 Tryz.underlying46 hi hz0 hz1' hz2' rfl (by decide) (.slice va k vc) k (rs.map RI.val) rfl ((ownsRow_below' hown hb1).alloc (.cells #[.slice ra l.size rc] 25)) (w1.heap.size + 1) (some ⟨w1.heap.size, 0, none⟩) 1 1 [.slice ra l.size rc] rfl (Rd.blkN (Blk.new w1 25 #[.slice ra l.size rc]) rfl (by omega)).reads (by simp [Value.oneCell']) (by unfold maxLen; omega) (by omega) (by have := hb1.size; simp only [World.size_alloc]; omega) (fun v' w' hown' hgrow hob => ?_)))
   have hB2 := ((hB.trans (hb1.mono hBs)).alloc (by have := hb1.size; omega) (.cells #[.slice ra l.size rc] 25)).grown hgrow (by have := hb1.size; simp only [World.size_alloc]; omega) (fun g hg => (((ownsRow_below' hown hb1).alloc (.cells #[.slice ra l.size rc] 25)).lt g hg).1)
   have hrow2 : Rows w' w.heap.size (rs ++ [⟨ra, l.size, rc, nwL l⟩]) (ls.take (k + 1)) := by
    refine ⟨by rw [List.map_append, hrows.out.1, HTK.out, List.map_append]; rfl, fun r hr => ?_⟩
    rcases List.mem_append.1 hr with h | h
    ·obtain ⟨h1, h2⟩ := hrows.out.2 r h
     have h1' := (ownsRow_below' h1 hb1).alloc (.cells #[.slice ra l.size rc] 25)
     exact ⟨h1'.kept hgrow (own_ne h1' ((ownsRow_below' hown hb1).alloc (.cells #[.slice ra l.size rc] 25)) (by decide)), h2⟩
    ·obtain rfl := List.mem_singleton.1 h
     have h1' := (own_mono hownr hBs).alloc (.cells #[.slice ra l.size rc] 25)
     exact ⟨h1'.kept hgrow (own_ne h1' ((ownsRow_below' hown hb1).alloc (.cells #[.slice ra l.size rc] 25)) (by decide)), hnr⟩
   go_roundg (n - (k + 1))
   case measure => rw [HG.out]; omega
   case rel => exact ⟨k + 1, v', rs ++ [⟨ra, l.size, rc, nwL l⟩], rfl, by omega, rfl, by go_num, by rw [List.map_append]; exact hown', Lib.hid hrow2, Lib.hid (fun h => absurd h (by omega)), hB2⟩
  ·obtain rfl : k = n := by omega
   have hge : ¬ (k : Int) < k := by omega
   have htk : ls.take k = ls := List.take_of_length_le (by rw [HL.out]; exact Nat.le_refl _)
   rw [htk] at hrows
   clear htk
   go_wp2_with fail
   go_ret
   exact ⟨_, rfl, rs, hown, hrows.out, hnil.out, hB⟩
end
section
open Go.RowKit Go.Lib Go.Maps
theorem bestI_mem {α : Type} (cost : α → Int) : ∀ (l : List α) (b : α), bestI cost l = some b → b ∈ l ∧ ∀ y ∈ l, cost b ≤ cost y := by
 refine revInd ?_ ?_
 ·intro b h; cases h
 ·intro l x ih b h
  rw [bestI_snoc] at h
  cases hl : bestI cost l with
  | none =>
   rw [hl] at h
   injection h with h
   have := (bestI_none cost l).1 hl
   subst this; subst h
   exact ⟨by simp, fun y hy => by have h2 : y = _ := (by simpa using hy); rw [h2]; exact Int.le_refl _⟩
  | some a =>
   rw [hl] at h
   obtain ⟨h1, h2⟩ := ih a hl
   injection h with h
   by_cases hc : cost x < cost a
   ·rw [if_pos hc] at h
    subst h
    exact ⟨by simp, fun y hy => by
      rcases List.mem_append.1 hy with hy | hy
      · have := h2 y hy; omega
      · rw [List.mem_singleton.1 hy]; omega⟩
   ·rw [if_neg hc] at h
    subst h
    exact ⟨List.mem_append_left _ h1, fun y hy => by
      rcases List.mem_append.1 hy with hy | hy
      · exact h2 y hy
      · rw [List.mem_singleton.1 hy]; omega⟩
theorem leastR_pos {xs : List RT} (h : 0 < xs.length) : 0 < (leastR xs).length := by
 obtain ⟨b, hb⟩ := bestI_some RT.c (l := xs) (fun e => by rw [e] at h; cases h)
 have hm := bestI_mem RT.c xs b hb
 unfold leastR
 rw [hb]
 exact List.length_pos_of_mem (List.mem_filter.2 ⟨hm.1, by simp⟩)
theorem leastQ_pos (wn q : Nat) (cs : List VC) : 0 < (leastQ wn q cs).length := leastR_pos (ratedL_pos wn q cs)
theorem leastR_sub {xs : List RT} {x : RT} (h : x ∈ leastR xs) : x ∈ xs := by
 unfold leastR at h
 split at h
 ·exact (List.mem_filter.1 h).1
 ·cases h
theorem leastQ_le {wn : Nat} (q : Nat) (cs : List VC) (h : wn ≤ 3) : (leastQ wn q cs).length ≤ 121 := Nat.le_trans (leastR_le _) (ratedL_le q cs h)
theorem leastQ_bd {wn : Nat} {A : Option Addr} {n : Nat} {cs : List VC} {w : World} {B : Nat} (hb : BkG wn A n cs w B) (q : Nat) : ∀ x ∈ leastQ wn q cs, x.l.size ≤ 4 ∧ 0 ≤ x.c ∧ x.c ≤ 1000 := fun x hx => rated_bd hb q x (leastR_sub hx)
def leastC (wn q : Nat) (cs : List VC) : Int := ((leastQ wn q cs).head?.map RT.c).getD 0
def leastL (wn q : Nat) (cs : List VC) : List ByteArray := (leastQ wn q cs).map RT.l
theorem Least_yes {wn : Nat} {A : Option Addr} {n : Nat} (cap : Nat) {cs : List VC} (q : Nat) {w : World} (hb : BkG wn A n cs w w.heap.size) (h1 : bookB (wn : Int) cs = true) (hq : q < headN cs) :
  Calls Tryz.prog 43 #[.agg #[.int .i64 (wn : Int), .slice A n cap], .int .i64 (q : Int)] w fun e w' => (∃ v rs, e = .returned (.tuple #[v, .int .i64 (leastC wn q cs), .int .i64 0]) ∧ w'.ownsRow w.heap.size 25 1 v (leastL wn q cs).length (rs.map RI.val) ∧ Rows w' w.heap.size rs (leastL wn q cs)) ∧ Below w.heap.size w w' := by
 have hX := Blk.new w 24 #[.int .i64 (wn : Int), .slice A n cap]
 have hB : Below w.heap.size w (w.alloc (.cells #[.int .i64 (wn : Int), .slice A n cap] 24)) := (Below.refl _ w).alloc (Nat.le_refl _) _
 have qX := fun i => hX.cell i
 have hmm := @run_makeMap Tryz.prog
 have hgb := fun (wx : World) (hx : Below w.heap.size w wx) => goodBook_any (wn : Int) A n cap cs wx (by have := hb.2.1.2; unfold maxLen; omega) (rdB hb.2.2.2.1 hx) (fun c h => okB (hb.2.2.2.2.1 c h) hx)
 simp only [h1] at hgb
 have hhl := fun (wx : World) (hx : Below w.heap.size w wx) => hasLine_any (wn : Int) (q : Int) A n cap cs wx hb.2.1.1 (rdB hb.2.2.2.1 hx) (fun c h => okB (hb.2.2.2.2.1 c h) hx) (by have := hb.2.2.1.2; omega)
 have hin : inB (q : Int) 0 ((headN cs : Int) - 1) = true := by simp [inB]; omega
 simp only [hin] at hhl
 have hol := fun (wx : World) (mb : Nat) (hx : Below w.heap.size w wx) (hmb : w.heap.size ≤ mb) (hm : Memo wx mb 0) => olLeast_any cap q mb 0 (hb.below hx) hmb hq hm (by rw [KK_8]; unfold maxLen; omega)
 have hpos := leastQ_pos wn q cs
 have hle := leastQ_le q cs hb.1.2
 have hbd := leastQ_bd hb q
 obtain ⟨Q, hQ⟩ : ∃ Q, Q = leastQ wn q cs := ⟨_, rfl⟩
 have HC0 := Lib.hid (show leastC wn q cs = (Q.head?.map RT.c).getD 0 by rw [hQ]; rfl)
 have HL0 := Lib.hid (show leastL wn q cs = Q.map RT.l by rw [hQ]; rfl)
 simp only [← hQ] at hol hpos hle hbd
 obtain ⟨m, hm'⟩ : ∃ m, m = Q.length := ⟨_, rfl⟩
 simp only [← hm'] at hol hpos hle
 have HGB := Lib.hid hgb; have HHL := Lib.hid hhl; have HOL := Lib.hid hol; have HBD := Lib.hid hbd; have HM := Lib.hid hm'
 have hw3 := hb.1.2
 clear hgb hhl hol hbd hm' hQ hin h1 hb hq
 go_enter Tryz.func43, Tryz.ntmps43
 go_wp2_with fail
 refine (HGB.out _ hB).mono ?_; rintro e w1 ⟨rfl, hb⟩; replace hX := hX.below hb hX.lt; replace hB := hB.trans (hb.mono hB.size); clear hb qX; have qX := fun i => hX.cell i
 go_wp2_with fail
 refine (HHL.out _ hB).mono ?_; rintro e w2 ⟨rfl, hb⟩; replace hX := hX.below hb hX.lt; replace hB := hB.trans (hb.mono hB.size); clear hb qX; have qX := fun i => hX.cell i
 go_wp2_with fail
 have hm := Memo.made w2
 have hmB := hB.size
 have hXl := hX.lt
 replace hB := hB.alloc hB.size (.map #[] 0); replace hX := hX.alloc (.map #[] 0)
 refine (HOL.out _ _ hB hmB hm).mono ?_; rintro e w3 ⟨v, rfl, hown, _, hg⟩
 have hX3 := hX.gb hg (by omega)
 obtain ⟨g, c, rfl, hg1, hg2⟩ := hown.form hpos
 replace hB := below_gb hB hg hmB hB.size
 clear hg qX
 go_wp2_with fail
 obtain ⟨c0, hc0⟩ : ∃ c0, c0 = leastC wn q cs := ⟨_, rfl⟩
 have HC1 := Lib.hid hc0
 have HCC : Hid (∀ W : World, W.ownsRow (w2.alloc (.map #[] 0)).heap.size 136 2 (.slice (some ⟨g, 0, none⟩) m c) m (Q.flatMap RT.cells) → W.cell? ⟨g, 1, none⟩ = some (.int .i64 c0)) := Lib.hid (fun W hW => by
   obtain ⟨_, _, hz, e4, _, _, hc⟩ := (Rd.of_own hW).elRT hpos
   cases e4
   have h2 : (Q.head?.map RT.c).getD 0 = Q[0].c := by cases Q with | nil => cases hz | cons x xs => rfl
   simpa [RT.cells, HC1.out, HC0.out, h2] using hc)
 have HSZ : Hid (∀ l ∈ Q.map RT.l, l.size ≤ 1000) := Lib.hid (fun l hl => by obtain ⟨x, hx, rfl⟩ := List.mem_map.1 hl; have := (HBD.out x hx).1; omega)
 clear hc0 hX hX3
 have hp1 : (0 : Int) < m := by omega
 rename World => WR
 refine wp_region_G (fun w' => w'.cell? ⟨g, 1, none⟩ = some (.int .i64 c0)) 9 (by kernel_rfl) ?_
 replace hB := hB.drew; replace hown : WR.drew.ownsRow _ 136 2 (.slice (some ⟨g, 0, none⟩) m c) m (Q.flatMap RT.cells) := hown
 generalize WR.drew = WD at *
 have hTT : WD.cell? ⟨g, 1, none⟩ = some (.int .i64 c0) := HCC.out _ hown
 refine tk 0 (v := ?_) rfl (Or.inl ⟨by rfl, ?h⟩) hTT ?_
 case h => intro wq hSw; have q0 := hSw; go_simp <;> with_reducible rfl
 simp only [LS, Act.put]
 refine tk 3 (v := ?_) rfl (Or.inl ⟨by rfl, ?h⟩) hTT ?_
 case h => intro wq hSw; have q0 := hSw; go_simp <;> with_reducible rfl
 simp only [LS, Act.put]
 refine tk 4 (v := ?_) rfl (Or.inl ⟨by rfl, ?h⟩) hTT ?_
 case h => intro wq hSw; have q0 := hSw; go_simp <;> with_reducible rfl
 simp only [LS, Act.put]
 refine tk 5 (v := ?_) rfl (Or.inl ⟨by rfl, ?h⟩) hTT ?_
 case h => intro wq hSw; have q0 := hSw; go_simp <;> with_reducible rfl
 simp only [LS, Act.put]
 refine tk 6 (v := ?_) rfl (Or.inl ⟨by rfl, ?h⟩) hTT ?_
 case h => intro wq hSw; have q0 := hSw; go_simp <;> with_reducible rfl
 simp only [LS, Act.put]
 refine o1 1 rfl fun K hK => ?_
 go_simp
 refine (linesOf_any (some ⟨g, 0, none⟩) m c Q WD (by omega) (Rd.of_own hown)).mono ?_
 rintro e w4 ⟨v4, rfl, hown4, _, hb4⟩
 obtain ⟨a4, c4, rfl⟩ := own_slice hown4
 replace hown := ownsRow_below' hown hb4; replace hB := hB.trans (hb4.mono hB.size)
 replace hTT := HCC.out _ hown
 clear hb4
 refine hK _ _ (.inr hTT) ?_
 clear hK K
 try simp only [LS, Act.put]
 refine o1 2 rfl fun K hK => ?_
 go_simp
 refine (wordsOf_any a4 m c4 (Q.map RT.l) w4 (by omega) HSZ.out (by have h := Rd.of_own hown4; rw [show (Q.map RT.l).map Value.string = Q.map (fun x => Value.string x.l) by rw [List.map_map]; rfl]; exact h)).mono ?_
 rintro e w5 ⟨v5, rs, rfl, hown5, hrows, _, hb5⟩
 replace hown := ownsRow_below' hown hb5
 have hB5 := hB.trans (hb5.mono hB.size)
 replace hTT := HCC.out _ hown
 obtain ⟨a5, c5, rfl⟩ := own_slice hown5
 clear hb5
 refine hK _ _ (.inr hTT) ?_
 clear hK K
 try simp only [LS, Act.put]
 refine tk 7 (v := ?_) rfl (Or.inl ⟨by rfl, ?h⟩) hTT ?_
 case h => intro wq hSw; have q0 := hSw; go_simp <;> with_reducible rfl
 simp only [LS, Act.put]
 refine tk 8 (v := ?_) rfl (Or.inl ⟨by rfl, ?h⟩) hTT ?_
 case h => intro wq hSw; have q0 := hSw; go_simp <;> with_reducible rfl
 simp only [LS, Act.put]
 refine o1 9 rfl fun K hK => ?_
 go_simp
 refine hK _ _ (.inl rfl) ?_
 clear hK K
 try simp only [LS, Act.put]
 refine wpG_done (by kernel_rfl) ?_ _
 clear hTT
 go_wp2_with fail
 go_ret3
 have hlm : (leastL wn q cs).length = m := by rw [HL0.out, List.length_map, ← HM.out]
 rw [← HC1.out, hlm]
 exact ⟨⟨_, rs, rfl, own_more hown5 (by have := hB.size; omega), by rw [HL0.out]; exact ⟨hrows.1, fun r hr => ⟨own_more (hrows.2 r hr).1 (by have := hB.size; omega), (hrows.2 r hr).2⟩⟩⟩, hB5⟩
theorem commonS_le (wn : Nat) (ls : List ByteArray) : (commonS wn ls).size ≤ 4 := by
 unfold commonS
 cases h : (descL wn).find? (allHave ls) with
 | none => exact Nat.zero_le _
 | some s =>
  have hm := List.mem_of_find?_eq_some h
  unfold descL descT at hm
  obtain ⟨k, hk, hs⟩ := List.mem_flatMap.1 hm
  obtain ⟨l, hl, rfl⟩ := List.mem_map.1 hs
  have := (allLs_mem hl).1
  show (lbS l).size ≤ 4
  rw [lbS_size]
  have := List.mem_range.1 hk
  omega
theorem Common_yes {wn : Nat} {A : Option Addr} {n : Nat} (cap : Nat) {cs : List VC} (q : Nat) {w : World} (hb : BkG wn A n cs w w.heap.size) (h1 : bookB (wn : Int) cs = true) (hq : q < headN cs) :
  Calls Tryz.prog 44 #[.agg #[.int .i64 (wn : Int), .slice A n cap], .int .i64 (q : Int)] w fun e w' => (∃ v, e = .returned (.tuple #[v, .int .i64 0]) ∧ w'.ownsRow w.heap.size 3 1 v (commonS wn (leastL wn q cs)).size ((nwL (commonS wn (leastL wn q cs))).map (Value.int .i64))) ∧ Below w.heap.size w w' := by
 have hX := Blk.new w 24 #[.int .i64 (wn : Int), .slice A n cap]
 have hB : Below w.heap.size w (w.alloc (.cells #[.int .i64 (wn : Int), .slice A n cap] 24)) := (Below.refl _ w).alloc (Nat.le_refl _) _
 have qX := fun i => hX.cell i
 have hmm := @run_makeMap Tryz.prog
 have hgb := fun (wx : World) (hx : Below w.heap.size w wx) => goodBook_any (wn : Int) A n cap cs wx (by have := hb.2.1.2; unfold maxLen; omega) (rdB hb.2.2.2.1 hx) (fun c h => okB (hb.2.2.2.2.1 c h) hx)
 simp only [h1] at hgb
 have hhl := fun (wx : World) (hx : Below w.heap.size w wx) => hasLine_any (wn : Int) (q : Int) A n cap cs wx hb.2.1.1 (rdB hb.2.2.2.1 hx) (fun c h => okB (hb.2.2.2.2.1 c h) hx) (by have := hb.2.2.1.2; omega)
 have hin : inB (q : Int) 0 ((headN cs : Int) - 1) = true := by simp [inB]; omega
 simp only [hin] at hhl
 have hol := fun (wx : World) (mb : Nat) (hx : Below w.heap.size w wx) (hmb : w.heap.size ≤ mb) (hm : Memo wx mb 0) => olLeast_any cap q mb 0 (hb.below hx) hmb hq hm (by rw [KK_8]; unfold maxLen; omega)
 have hpos := leastQ_pos wn q cs
 have hle := leastQ_le q cs hb.1.2
 have hbd := leastQ_bd hb q
 obtain ⟨Q, hQ⟩ : ∃ Q, Q = leastQ wn q cs := ⟨_, rfl⟩
 have HC0 := Lib.hid (show leastC wn q cs = (Q.head?.map RT.c).getD 0 by rw [hQ]; rfl)
 have HL0 := Lib.hid (show leastL wn q cs = Q.map RT.l by rw [hQ]; rfl)
 simp only [← hQ] at hol hpos hle hbd
 obtain ⟨m, hm'⟩ : ∃ m, m = Q.length := ⟨_, rfl⟩
 simp only [← hm'] at hol hpos hle
 have HGB := Lib.hid hgb; have HHL := Lib.hid hhl; have HOL := Lib.hid hol; have HBD := Lib.hid hbd; have HM := Lib.hid hm'
 have hw3 := hb.1.2
 clear hgb hhl hol hbd hm' hQ hin h1 hb hq
 go_enter Tryz.func44, Tryz.ntmps44
 go_wp2_with fail
 refine (HGB.out _ hB).mono ?_; rintro e w1 ⟨rfl, hb⟩; replace hX := hX.below hb hX.lt; replace hB := hB.trans (hb.mono hB.size); clear hb qX; have qX := fun i => hX.cell i
 go_wp2_with fail
 refine (HHL.out _ hB).mono ?_; rintro e w2 ⟨rfl, hb⟩; replace hX := hX.below hb hX.lt; replace hB := hB.trans (hb.mono hB.size); clear hb qX; have qX := fun i => hX.cell i
 go_wp2_with fail
 have hm := Memo.made w2
 have hmB := hB.size
 have hXl := hX.lt
 replace hB := hB.alloc hB.size (.map #[] 0); replace hX := hX.alloc (.map #[] 0)
 refine (HOL.out _ _ hB hmB hm).mono ?_; rintro e w3 ⟨v, rfl, hown, _, hg⟩
 have hX3 := hX.gb hg (by omega)
 obtain ⟨g, c, rfl, hg1, hg2⟩ := hown.form hpos
 replace hB := below_gb hB hg hmB hB.size
 clear hg qX
 go_wp2_with fail
 have HSZ : Hid (∀ l ∈ Q.map RT.l, l.size ≤ 100000) := Lib.hid (fun l hl => by obtain ⟨x, hx, rfl⟩ := List.mem_map.1 hl; have := (HBD.out x hx).1; omega)
 have HCS : Hid ((commonS wn (Q.map RT.l)).size ≤ 100000) := Lib.hid (by have := commonS_le wn (Q.map RT.l); omega)
 clear hX
 rename World => WR
 refine wp_region_G (fun w' => Blk w' w.heap.size 24 #[.int .i64 (wn : Int), .slice A n cap]) 7 (by kernel_rfl) ?_
 replace hB := hB.drew; replace hX3 := hX3.drew; replace hown : WR.drew.ownsRow _ 136 2 (.slice (some ⟨g, 0, none⟩) m c) m (Q.flatMap RT.cells) := hown
 generalize WR.drew = WD at *
 have hTT : Blk WD w.heap.size 24 #[.int .i64 (wn : Int), .slice A n cap] := hX3
 refine tk 0 (v := ?_) rfl (Or.inl ⟨by rfl, ?h⟩) hTT ?_
 case h => intro wq hSw; have q0 := fun i => hSw.cell i; go_simp <;> with_reducible rfl
 simp only [LS, Act.put]
 refine tk 2 (v := ?_) rfl (Or.inl ⟨by rfl, ?h⟩) hTT ?_
 case h => intro wq hSw; have q0 := fun i => hSw.cell i; go_simp <;> with_reducible rfl
 simp only [LS, Act.put]
 refine tk 3 (v := ?_) rfl (Or.inl ⟨by rfl, ?h⟩) hTT ?_
 case h => intro wq hSw; have q0 := fun i => hSw.cell i; go_simp <;> with_reducible rfl
 simp only [LS, Act.put]
 refine o1 1 rfl fun K hK => ?_
 go_simp
 refine (linesOf_any (some ⟨g, 0, none⟩) m c Q WD (by omega) (Rd.of_own hown)).mono ?_
 rintro e w4 ⟨v4, rfl, hown4, _, hb4⟩
 obtain ⟨a4, c4, rfl⟩ := own_slice hown4
 replace hown := ownsRow_below' hown hb4; replace hB := hB.trans (hb4.mono hB.size)
 replace hX3 := hX3.below hb4 hX3.lt
 replace hTT := hX3
 clear hb4
 refine hK _ _ (.inr hTT) ?_
 clear hK K
 try simp only [LS, Act.put]
 refine o1 4 rfl fun K hK => ?_
 go_simp
 refine (common_any wn a4 m c4 (Q.map RT.l) w4 hw3 (by omega) (by have h := Rd.of_own hown4; rw [show (Q.map RT.l).map Value.string = Q.map (fun x => Value.string x.l) by rw [List.map_map]; rfl]; exact h) HSZ.out).mono ?_
 rintro e w5 ⟨rfl, hb5⟩
 replace hX3 := hX3.below hb5 hX3.lt; replace hB := hB.trans (hb5.mono hB.size)
 replace hTT := hX3
 clear hb5
 refine hK _ _ (.inr hTT) ?_
 clear hK K
 try simp only [LS, Act.put]
 refine o1 5 rfl fun K hK => ?_
 go_simp
 refine (words_any (commonS wn (Q.map RT.l)) w5 HCS.out).mono ?_
 rintro e w6 ⟨v6, rfl, hown6, _, hb6⟩
 have hB6 := hB.trans (hb6.mono hB.size)
 replace hX3 := hX3.below hb6 hX3.lt
 replace hTT := hX3
 obtain ⟨a6, c6, rfl⟩ := own_slice hown6
 clear hb6
 refine hK _ _ (.inr hTT) ?_
 clear hK K
 try simp only [LS, Act.put]
 refine tk 6 (v := ?_) rfl (Or.inl ⟨by rfl, ?h⟩) hTT ?_
 case h => intro wq hSw; have q0 := fun i => hSw.cell i; go_simp <;> with_reducible rfl
 simp only [LS, Act.put]
 refine o1 7 rfl fun K hK => ?_
 go_simp
 refine hK _ _ (.inl rfl) ?_
 clear hK K
 try simp only [LS, Act.put]
 refine wpG_done (by kernel_rfl) ?_ _
 clear hTT
 go_wp2_with fail
 go_ret2
 rw [HL0.out]
 exact ⟨⟨_, rfl, own_more hown6 (by have := hB.size; omega)⟩, hB6⟩
end
end Go.Proofs.YtekmnelpkogppaaGreatDoor
