import Derived.Test.YtekmnelpkogppaaGreatDoorProg
import Derived.Test.YtekmnelpkogppaaGreatDoorKy3
import Derived.Test.YtekmnelpkogppaaGreatDoorKy4
import Derived.Test.YtekmnelpkogppaaGreatDoorKy10
import Derived.Shelf.LaysM
import Derived.Shelf.Vars
import Derived.KernelRfl
set_option linter.unusedVariables false
set_option linter.unusedSimpArgs false
set_option maxRecDepth 100000
set_option maxHeartbeats 40000000
namespace Go.Proofs.YtekmnelpkogppaaGreatDoor
section
open Go.RowKit Go.Lib
theorem is_ktext : (ktext.toList == [98, 111, 111, 107, 32, 50, 10, 99, 111, 112, 121, 10, 108, 105, 110, 101, 32, 49, 32, 48, 10, 108, 111, 115, 116, 10, 101, 110, 100, 32, 49, 52, 51, 10]) = true := by rw [ByteArray.toList_eq]; rfl
theorem known_true (m : Int) (w : World) (hE : Env m w) : Calls Tryz.prog 24 #[] w fun e w' => e = .returned (.bool true) ∧ Below w.heap.size w w' := by
 have hB := Below.refl w.heap.size w
 go_enter Tryz.func24, Tryz.ntmps24
 go_wp2_with fail
 refine (B_any _).mono ?_; rintro e w1 ⟨⟨vb, rfl, hb79⟩, hb⟩
 replace hE := hE.below hb
 replace hB := hB.trans (hb.mono hB.size); clear hb
 have iab := Blk.new (w1) 3 #[.int .i64 0, .int .i64 2]
 try simp only [World.size_alloc] at iab
 have hba := (Below.refl (w1).heap.size (w1)).alloc (Nat.le_refl _) (.cells #[.int .i64 0, .int .i64 2] 3)
 replace hE := hE.below hba
 replace hb79 := hb79.below hba
 replace hB := hB.trans (hba.mono hB.size); clear hba
 have ia : IL ((w1).alloc (.cells #[.int .i64 0, .int .i64 2] 3)) (.slice (some ⟨w1.heap.size, 0, none⟩) 2 2) [0, 2] := IL.blk (l := [0, 2]) iab (by decide)
 clear iab
 have ibb := Blk.new ((w1).alloc (.cells #[.int .i64 0, .int .i64 2] 3)) 3 #[.int .i64 0, .int .i64 1, .int .i64 1, .int .i64 2]
 try simp only [World.size_alloc] at ibb
 have hba := (Below.refl ((w1).alloc (.cells #[.int .i64 0, .int .i64 2] 3)).heap.size ((w1).alloc (.cells #[.int .i64 0, .int .i64 2] 3))).alloc (Nat.le_refl _) (.cells #[.int .i64 0, .int .i64 1, .int .i64 1, .int .i64 2] 3)
 replace hE := hE.below hba
 replace hb79 := hb79.below hba
 replace ia := ia.below hba
 replace hB := hB.trans (hba.mono hB.size); clear hba
 have ib : IL (((w1).alloc (.cells #[.int .i64 0, .int .i64 2] 3)).alloc (.cells #[.int .i64 0, .int .i64 1, .int .i64 1, .int .i64 2] 3)) (.slice (some ⟨w1.heap.size + 1, 0, none⟩) 4 4) [0, 1, 1, 2] := IL.blk (l := [0, 1, 1, 2]) ibb (by decide)
 clear ibb
 go_wp2_with fail
 refine (kChanges hb79 ia ib).mono ?_; rintro e w2 ⟨rfl, hb⟩
 replace hE := hE.below hb
 replace hb79 := hb79.below hb
 replace ia := ia.below hb
 replace ib := ib.below hb
 replace hB := hB.trans (hb.mono hB.size); clear hb
 clear ia ib hb79
 go_wp2_with fail
 refine (B_any _).mono ?_; rintro e w3 ⟨⟨vb, rfl, hb79⟩, hb⟩
 replace hE := hE.below hb
 replace hB := hB.trans (hb.mono hB.size); clear hb
 have iab := Blk.new (w3) 3 #[.int .i64 0, .int .i64 2]
 try simp only [World.size_alloc] at iab
 have hba := (Below.refl (w3).heap.size (w3)).alloc (Nat.le_refl _) (.cells #[.int .i64 0, .int .i64 2] 3)
 replace hE := hE.below hba
 replace hb79 := hb79.below hba
 replace hB := hB.trans (hba.mono hB.size); clear hba
 have ia : IL ((w3).alloc (.cells #[.int .i64 0, .int .i64 2] 3)) (.slice (some ⟨w3.heap.size, 0, none⟩) 2 2) [0, 2] := IL.blk (l := [0, 2]) iab (by decide)
 clear iab
 have ibb := Blk.new ((w3).alloc (.cells #[.int .i64 0, .int .i64 2] 3)) 3 #[.int .i64 0, .int .i64 1, .int .i64 1, .int .i64 2]
 try simp only [World.size_alloc] at ibb
 have hba := (Below.refl ((w3).alloc (.cells #[.int .i64 0, .int .i64 2] 3)).heap.size ((w3).alloc (.cells #[.int .i64 0, .int .i64 2] 3))).alloc (Nat.le_refl _) (.cells #[.int .i64 0, .int .i64 1, .int .i64 1, .int .i64 2] 3)
 replace hE := hE.below hba
 replace hb79 := hb79.below hba
 replace ia := ia.below hba
 replace hB := hB.trans (hba.mono hB.size); clear hba
 have ib : IL (((w3).alloc (.cells #[.int .i64 0, .int .i64 2] 3)).alloc (.cells #[.int .i64 0, .int .i64 1, .int .i64 1, .int .i64 2] 3)) (.slice (some ⟨w3.heap.size + 1, 0, none⟩) 4 4) [0, 1, 1, 2] := IL.blk (l := [0, 1, 1, 2]) ibb (by decide)
 clear ibb
 go_wp2_with fail
 refine (kSteps hb79 ia ib).mono ?_; rintro e w4 ⟨⟨u3, rfl, h3⟩, hb⟩
 replace hE := hE.below hb
 replace hb79 := hb79.below hb
 replace ia := ia.below hb
 replace ib := ib.below hb
 replace hB := hB.trans (hb.mono hB.size); clear hb
 clear ia ib hb79
 go_wp2_with fail
 refine (B_any _).mono ?_; rintro e w5 ⟨⟨vb, rfl, hb79⟩, hb⟩
 replace hE := hE.below hb
 replace h3 := h3.below hb
 replace hB := hB.trans (hb.mono hB.size); clear hb
 have iab := Blk.new (w5) 3 #[.int .i64 0, .int .i64 2]
 try simp only [World.size_alloc] at iab
 have hba := (Below.refl (w5).heap.size (w5)).alloc (Nat.le_refl _) (.cells #[.int .i64 0, .int .i64 2] 3)
 replace hE := hE.below hba
 replace h3 := h3.below hba
 replace hb79 := hb79.below hba
 replace hB := hB.trans (hba.mono hB.size); clear hba
 have ia : IL ((w5).alloc (.cells #[.int .i64 0, .int .i64 2] 3)) (.slice (some ⟨w5.heap.size, 0, none⟩) 2 2) [0, 2] := IL.blk (l := [0, 2]) iab (by decide)
 clear iab
 have ibb := Blk.new ((w5).alloc (.cells #[.int .i64 0, .int .i64 2] 3)) 3 #[.int .i64 0, .int .i64 1, .int .i64 1, .int .i64 2]
 try simp only [World.size_alloc] at ibb
 have hba := (Below.refl ((w5).alloc (.cells #[.int .i64 0, .int .i64 2] 3)).heap.size ((w5).alloc (.cells #[.int .i64 0, .int .i64 2] 3))).alloc (Nat.le_refl _) (.cells #[.int .i64 0, .int .i64 1, .int .i64 1, .int .i64 2] 3)
 replace hE := hE.below hba
 replace h3 := h3.below hba
 replace hb79 := hb79.below hba
 replace ia := ia.below hba
 replace hB := hB.trans (hba.mono hB.size); clear hba
 have ib : IL (((w5).alloc (.cells #[.int .i64 0, .int .i64 2] 3)).alloc (.cells #[.int .i64 0, .int .i64 1, .int .i64 1, .int .i64 2] 3)) (.slice (some ⟨w5.heap.size + 1, 0, none⟩) 4 4) [0, 1, 1, 2] := IL.blk (l := [0, 1, 1, 2]) ibb (by decide)
 clear ibb
 go_wp2_with fail
 refine (kBetween hb79 ia ib).mono ?_; rintro e w6 ⟨⟨u5, rfl, h5⟩, hb⟩
 replace hE := hE.below hb
 replace h3 := h3.below hb
 replace hb79 := hb79.below hb
 replace ia := ia.below hb
 replace ib := ib.below hb
 replace hB := hB.trans (hb.mono hB.size); clear hb
 clear ia ib hb79
 go_wp2_with fail
 refine (B_any _).mono ?_; rintro e w7 ⟨⟨vb, rfl, hb79⟩, hb⟩
 replace hE := hE.below hb
 replace h3 := h3.below hb
 replace h5 := h5.below hb
 replace hB := hB.trans (hb.mono hB.size); clear hb
 go_wp2_with fail
 refine (kLeast hb79).mono ?_; rintro e w8 ⟨⟨u7, rfl, h7⟩, hb⟩
 replace hE := hE.below hb
 replace h3 := h3.below hb
 replace h5 := h5.below hb
 replace hb79 := hb79.below hb
 replace hB := hB.trans (hb.mono hB.size); clear hb
 clear hb79
 go_wp2_with fail
 refine (B_any _).mono ?_; rintro e w9 ⟨⟨vb, rfl, hb79⟩, hb⟩
 replace hE := hE.below hb
 replace h3 := h3.below hb
 replace h5 := h5.below hb
 replace h7 := h7.below hb
 replace hB := hB.trans (hb.mono hB.size); clear hb
 go_wp2_with fail
 refine (kCommon hb79).mono ?_; rintro e w10 ⟨⟨u10, rfl, h10⟩, hb⟩
 replace hE := hE.below hb
 replace h3 := h3.below hb
 replace h5 := h5.below hb
 replace h7 := h7.below hb
 replace hb79 := hb79.below hb
 replace hB := hB.trans (hb.mono hB.size); clear hb
 clear hb79
 go_wp2_with fail
 refine (B_any _).mono ?_; rintro e w11 ⟨⟨vb, rfl, hb79⟩, hb⟩
 replace hE := hE.below hb
 replace h3 := h3.below hb
 replace h5 := h5.below hb
 replace h7 := h7.below hb
 replace h10 := h10.below hb
 replace hB := hB.trans (hb.mono hB.size); clear hb
 go_wp2_with fail
 refine (kTextV hb79).mono ?_; rintro e w12 ⟨⟨u12, rfl, h12⟩, hb⟩
 replace hE := hE.below hb
 replace h3 := h3.below hb
 replace h5 := h5.below hb
 replace h7 := h7.below hb
 replace h10 := h10.below hb
 replace hb79 := hb79.below hb
 replace hB := hB.trans (hb.mono hB.size); clear hb
 clear hb79
 go_wp2_with fail
 refine (B_any _).mono ?_; rintro e w13 ⟨⟨vb, rfl, hb79⟩, hb⟩
 replace hE := hE.below hb
 replace h3 := h3.below hb
 replace h5 := h5.below hb
 replace h7 := h7.below hb
 replace h10 := h10.below hb
 replace h12 := h12.below hb
 replace hB := hB.trans (hb.mono hB.size); clear hb
 go_wp2_with fail
 refine (kFar hb79).mono ?_; rintro e w14 ⟨rfl, hb⟩
 replace hE := hE.below hb
 replace h3 := h3.below hb
 replace h5 := h5.below hb
 replace h7 := h7.below hb
 replace h10 := h10.below hb
 replace h12 := h12.below hb
 replace hb79 := hb79.below hb
 replace hB := hB.trans (hb.mono hB.size); clear hb
 clear hb79
 have hF := Blk.new (w14) 66 #[.int .i64 0, .int .i64 1]
 have hba := (Below.refl (w14).heap.size (w14)).alloc (Nat.le_refl _) (.cells #[.int .i64 0, .int .i64 1] 66)
 replace hE := hE.below hba
 replace h3 := h3.below hba
 replace h5 := h5.below hba
 replace h7 := h7.below hba
 replace h10 := h10.below hba
 replace h12 := h12.below hba
 replace hB := hB.trans (hba.mono hB.size); clear hba
 go_wp2_with fail
 refine (B_any _).mono ?_; rintro e w15 ⟨⟨vb, rfl, hb79⟩, hb⟩
 replace hE := hE.below hb
 replace h3 := h3.below hb
 replace h5 := h5.below hb
 replace h7 := h7.below hb
 replace h10 := h10.below hb
 replace h12 := h12.below hb
 replace hF := hF.below hb hF.lt
 replace hB := hB.trans (hb.mono hB.size); clear hb
 go_wp2_with fail
 refine (kAsk hb79).mono ?_; rintro e w16 ⟨rfl, hb⟩
 replace hE := hE.below hb
 replace h3 := h3.below hb
 replace h5 := h5.below hb
 replace h7 := h7.below hb
 replace h10 := h10.below hb
 replace h12 := h12.below hb
 replace hF := hF.below hb hF.lt
 replace hb79 := hb79.below hb
 replace hB := hB.trans (hb.mono hB.size); clear hb
 clear hb79
 go_wp2_with fail
 refine (B_any _).mono ?_; rintro e w17 ⟨⟨vb, rfl, hb79⟩, hb⟩
 replace hE := hE.below hb
 replace h3 := h3.below hb
 replace h5 := h5.below hb
 replace h7 := h7.below hb
 replace h10 := h10.below hb
 replace h12 := h12.below hb
 replace hF := hF.below hb hF.lt
 replace hB := hB.trans (hb.mono hB.size); clear hb
 have iab := Blk.new (w17) 3 #[.int .i64 0, .int .i64 2]
 try simp only [World.size_alloc] at iab
 have hba := (Below.refl (w17).heap.size (w17)).alloc (Nat.le_refl _) (.cells #[.int .i64 0, .int .i64 2] 3)
 replace hE := hE.below hba
 replace h3 := h3.below hba
 replace h5 := h5.below hba
 replace h7 := h7.below hba
 replace h10 := h10.below hba
 replace h12 := h12.below hba
 replace hF := hF.below hba hF.lt
 replace hb79 := hb79.below hba
 replace hB := hB.trans (hba.mono hB.size); clear hba
 have ia : IL ((w17).alloc (.cells #[.int .i64 0, .int .i64 2] 3)) (.slice (some ⟨w17.heap.size, 0, none⟩) 2 2) [0, 2] := IL.blk (l := [0, 2]) iab (by decide)
 clear iab
 have ibb := Blk.new ((w17).alloc (.cells #[.int .i64 0, .int .i64 2] 3)) 3 #[.int .i64 1]
 try simp only [World.size_alloc] at ibb
 have hba := (Below.refl ((w17).alloc (.cells #[.int .i64 0, .int .i64 2] 3)).heap.size ((w17).alloc (.cells #[.int .i64 0, .int .i64 2] 3))).alloc (Nat.le_refl _) (.cells #[.int .i64 1] 3)
 replace hE := hE.below hba
 replace h3 := h3.below hba
 replace h5 := h5.below hba
 replace h7 := h7.below hba
 replace h10 := h10.below hba
 replace h12 := h12.below hba
 replace hF := hF.below hba hF.lt
 replace hb79 := hb79.below hba
 replace ia := ia.below hba
 replace hB := hB.trans (hba.mono hB.size); clear hba
 have ib : IL (((w17).alloc (.cells #[.int .i64 0, .int .i64 2] 3)).alloc (.cells #[.int .i64 1] 3)) (.slice (some ⟨w17.heap.size + 1, 0, none⟩) 1 1) [1] := IL.blk (l := [1]) ibb (by decide)
 clear ibb
 have ilb := Blk.new (((w17).alloc (.cells #[.int .i64 0, .int .i64 2] 3)).alloc (.cells #[.int .i64 1] 3)) 25 #[.slice (some ⟨w17.heap.size, 0, none⟩) 2 2, .slice (some ⟨w17.heap.size + 1, 0, none⟩) 1 1]
 try simp only [World.size_alloc] at ilb
 have hba := (Below.refl (((w17).alloc (.cells #[.int .i64 0, .int .i64 2] 3)).alloc (.cells #[.int .i64 1] 3)).heap.size (((w17).alloc (.cells #[.int .i64 0, .int .i64 2] 3)).alloc (.cells #[.int .i64 1] 3))).alloc (Nat.le_refl _) (.cells #[.slice (some ⟨w17.heap.size, 0, none⟩) 2 2, .slice (some ⟨w17.heap.size + 1, 0, none⟩) 1 1] 25)
 replace hE := hE.below hba
 replace h3 := h3.below hba
 replace h5 := h5.below hba
 replace h7 := h7.below hba
 replace h10 := h10.below hba
 replace h12 := h12.below hba
 replace hF := hF.below hba hF.lt
 replace hb79 := hb79.below hba
 replace ia := ia.below hba
 replace ib := ib.below hba
 replace hB := hB.trans (hba.mono hB.size); clear hba
 have il : LL ((((w17).alloc (.cells #[.int .i64 0, .int .i64 2] 3)).alloc (.cells #[.int .i64 1] 3)).alloc (.cells #[.slice (some ⟨w17.heap.size, 0, none⟩) 2 2, .slice (some ⟨w17.heap.size + 1, 0, none⟩) 1 1] 25)) (.slice (some ⟨w17.heap.size + 1 + 1, 0, none⟩) 2 2) [[0, 2], [1]] := LL.blk (vs := [.slice (some ⟨w17.heap.size, 0, none⟩) 2 2, .slice (some ⟨w17.heap.size + 1, 0, none⟩) 1 1]) (ls := [[0, 2], [1]]) ilb rfl (by simp) (fun k h1 h2 => by
   match k, h1 with
   | 0, _ => exact ia
   | 1, _ => exact ib
   | k + 2, h1 => exact absurd h1 (by simp))
 clear ilb
 go_wp2_with fail
 refine (kTree hb79 il).mono ?_; rintro e w18 ⟨⟨u22, rfl, h22⟩, hb⟩
 replace hE := hE.below hb
 replace h3 := h3.below hb
 replace h5 := h5.below hb
 replace h7 := h7.below hb
 replace h10 := h10.below hb
 replace h12 := h12.below hb
 replace hF := hF.below hb hF.lt
 replace hb79 := hb79.below hb
 replace ia := ia.below hb
 replace ib := ib.below hb
 replace il := il.below hb
 replace hB := hB.trans (hb.mono hB.size); clear hb
 clear ia ib il hb79
 go_wp2_with fail
 refine (B_any _).mono ?_; rintro e w19 ⟨⟨vb, rfl, hb79⟩, hb⟩
 replace hE := hE.below hb
 replace h3 := h3.below hb
 replace h5 := h5.below hb
 replace h7 := h7.below hb
 replace h10 := h10.below hb
 replace h12 := h12.below hb
 replace hF := hF.below hb hF.lt
 replace h22 := h22.below hb
 replace hB := hB.trans (hb.mono hB.size); clear hb
 go_wp2_with fail
 refine (kMixed hb79).mono ?_; rintro e w20 ⟨rfl, hb⟩
 replace hE := hE.below hb
 replace h3 := h3.below hb
 replace h5 := h5.below hb
 replace h7 := h7.below hb
 replace h10 := h10.below hb
 replace h12 := h12.below hb
 replace hF := hF.below hb hF.lt
 replace h22 := h22.below hb
 replace hb79 := hb79.below hb
 replace hB := hB.trans (hb.mono hB.size); clear hb
 clear hb79
 have hM := Blk.new (w20) 93 #[.int .i64 0, .int .i64 1, .int .i64 1, .int .i64 1]
 have hba := (Below.refl (w20).heap.size (w20)).alloc (Nat.le_refl _) (.cells #[.int .i64 0, .int .i64 1, .int .i64 1, .int .i64 1] 93)
 replace hE := hE.below hba
 replace h3 := h3.below hba
 replace h5 := h5.below hba
 replace h7 := h7.below hba
 replace h10 := h10.below hba
 replace h12 := h12.below hba
 replace hF := hF.below hba hF.lt
 replace h22 := h22.below hba
 replace hB := hB.trans (hba.mono hB.size); clear hba
 go_wp2_with fail
 refine (kRead m _ hE).mono ?_; rintro e w21 ⟨⟨vr, rfl, hr⟩, hb⟩
 replace hE := hE.below hb
 replace h3 := h3.below hb
 replace h5 := h5.below hb
 replace h7 := h7.below hb
 replace h10 := h10.below hb
 replace h12 := h12.below hb
 replace hF := hF.below hb hF.lt
 replace h22 := h22.below hb
 replace hM := hM.below hb hM.lt
 replace hB := hB.trans (hb.mono hB.size); clear hb
 have hr' := hr
 obtain ⟨rA, rn, rc, rcs, e, -⟩ := hr'
 subst e
 have hX := Blk.new (w21) 24 #[.int .i64 2, .slice rA rn rc]
 have hba := (Below.refl (w21).heap.size (w21)).alloc (Nat.le_refl _) (.cells #[.int .i64 2, .slice rA rn rc] 24)
 replace hE := hE.below hba
 replace h3 := h3.below hba
 replace h5 := h5.below hba
 replace h7 := h7.below hba
 replace h10 := h10.below hba
 replace h12 := h12.below hba
 replace hF := hF.below hba hF.lt
 replace h22 := h22.below hba
 replace hM := hM.below hba hM.lt
 replace hr := hr.below hba
 replace hB := hB.trans (hba.mono hB.size); clear hba
 have c2 : decide ([(1, 0), (3, 1), (3, 1), (1, 2)] = ([(1, 0), (3, 1), (3, 1), (1, 2)] : List (Int × UInt8))) = true := by decide
 go_upto_region 14 with fail
 have isb := Blk.new ((w21).alloc (.cells #[.int .i64 2, .slice rA rn rc] 24)) 116 #[.int .i64 1, .int .i64 0, .int .i64 3, .int .i64 1, .int .i64 3, .int .i64 1, .int .i64 1, .int .i64 2]
 try simp only [World.size_alloc] at isb
 have hba := (Below.refl ((w21).alloc (.cells #[.int .i64 2, .slice rA rn rc] 24)).heap.size ((w21).alloc (.cells #[.int .i64 2, .slice rA rn rc] 24))).alloc (Nat.le_refl _) (.cells #[.int .i64 1, .int .i64 0, .int .i64 3, .int .i64 1, .int .i64 3, .int .i64 1, .int .i64 1, .int .i64 2] 116)
 replace hE := hE.below hba
 replace h3 := h3.below hba
 replace h5 := h5.below hba
 replace h7 := h7.below hba
 replace h10 := h10.below hba
 replace h12 := h12.below hba
 replace hF := hF.below hba hF.lt
 replace h22 := h22.below hba
 replace hM := hM.below hba hM.lt
 replace hr := hr.below hba
 replace hX := hX.below hba hX.lt
 replace hB := hB.trans (hba.mono hB.size); clear hba
 have is_ : SL (((w21).alloc (.cells #[.int .i64 2, .slice rA rn rc] 24)).alloc (.cells #[.int .i64 1, .int .i64 0, .int .i64 3, .int .i64 1, .int .i64 3, .int .i64 1, .int .i64 1, .int .i64 2] 116)) (.slice (some ⟨w21.heap.size + 1, 0, none⟩) 4 4) [(1, 0), (3, 1), (3, 1), (1, 2)] := SL.blk (l := [(1, 0), (3, 1), (3, 1), (1, 2)]) isb (by decide)
 clear isb
 go_wp2_with fail
 refine (same_SL h3 is_).mono ?_; rintro e w22 ⟨rfl, hb⟩
 replace hE := hE.below hb
 replace h3 := h3.below hb
 replace h5 := h5.below hb
 replace h7 := h7.below hb
 replace h10 := h10.below hb
 replace h12 := h12.below hb
 replace hF := hF.below hb hF.lt
 replace h22 := h22.below hb
 replace hM := hM.below hb hM.lt
 replace hr := hr.below hb
 replace hX := hX.below hb hX.lt
 replace is_ := is_.below hb
 replace hB := hB.trans (hb.mono hB.size); clear hb
 clear h3 is_
 have i0b := Blk.new (w22) 3 #[.int .i64 0, .int .i64 2]
 try simp only [World.size_alloc] at i0b
 have hba := (Below.refl (w22).heap.size (w22)).alloc (Nat.le_refl _) (.cells #[.int .i64 0, .int .i64 2] 3)
 replace hE := hE.below hba
 replace h5 := h5.below hba
 replace h7 := h7.below hba
 replace h10 := h10.below hba
 replace h12 := h12.below hba
 replace hF := hF.below hba hF.lt
 replace h22 := h22.below hba
 replace hM := hM.below hba hM.lt
 replace hr := hr.below hba
 replace hX := hX.below hba hX.lt
 replace hB := hB.trans (hba.mono hB.size); clear hba
 have i0 : IL ((w22).alloc (.cells #[.int .i64 0, .int .i64 2] 3)) (.slice (some ⟨w22.heap.size, 0, none⟩) 2 2) [0, 2] := IL.blk (l := [0, 2]) i0b (by decide)
 clear i0b
 have i1b := Blk.new ((w22).alloc (.cells #[.int .i64 0, .int .i64 2] 3)) 3 #[.int .i64 0, .int .i64 1, .int .i64 2]
 try simp only [World.size_alloc] at i1b
 have hba := (Below.refl ((w22).alloc (.cells #[.int .i64 0, .int .i64 2] 3)).heap.size ((w22).alloc (.cells #[.int .i64 0, .int .i64 2] 3))).alloc (Nat.le_refl _) (.cells #[.int .i64 0, .int .i64 1, .int .i64 2] 3)
 replace hE := hE.below hba
 replace h5 := h5.below hba
 replace h7 := h7.below hba
 replace h10 := h10.below hba
 replace h12 := h12.below hba
 replace hF := hF.below hba hF.lt
 replace h22 := h22.below hba
 replace hM := hM.below hba hM.lt
 replace hr := hr.below hba
 replace hX := hX.below hba hX.lt
 replace i0 := i0.below hba
 replace hB := hB.trans (hba.mono hB.size); clear hba
 have i1 : IL (((w22).alloc (.cells #[.int .i64 0, .int .i64 2] 3)).alloc (.cells #[.int .i64 0, .int .i64 1, .int .i64 2] 3)) (.slice (some ⟨w22.heap.size + 1, 0, none⟩) 3 3) [0, 1, 2] := IL.blk (l := [0, 1, 2]) i1b (by decide)
 clear i1b
 have i2b := Blk.new (((w22).alloc (.cells #[.int .i64 0, .int .i64 2] 3)).alloc (.cells #[.int .i64 0, .int .i64 1, .int .i64 2] 3)) 3 #[.int .i64 0, .int .i64 1, .int .i64 1, .int .i64 2]
 try simp only [World.size_alloc] at i2b
 have hba := (Below.refl (((w22).alloc (.cells #[.int .i64 0, .int .i64 2] 3)).alloc (.cells #[.int .i64 0, .int .i64 1, .int .i64 2] 3)).heap.size (((w22).alloc (.cells #[.int .i64 0, .int .i64 2] 3)).alloc (.cells #[.int .i64 0, .int .i64 1, .int .i64 2] 3))).alloc (Nat.le_refl _) (.cells #[.int .i64 0, .int .i64 1, .int .i64 1, .int .i64 2] 3)
 replace hE := hE.below hba
 replace h5 := h5.below hba
 replace h7 := h7.below hba
 replace h10 := h10.below hba
 replace h12 := h12.below hba
 replace hF := hF.below hba hF.lt
 replace h22 := h22.below hba
 replace hM := hM.below hba hM.lt
 replace hr := hr.below hba
 replace hX := hX.below hba hX.lt
 replace i0 := i0.below hba
 replace i1 := i1.below hba
 replace hB := hB.trans (hba.mono hB.size); clear hba
 have i2 : IL ((((w22).alloc (.cells #[.int .i64 0, .int .i64 2] 3)).alloc (.cells #[.int .i64 0, .int .i64 1, .int .i64 2] 3)).alloc (.cells #[.int .i64 0, .int .i64 1, .int .i64 1, .int .i64 2] 3)) (.slice (some ⟨w22.heap.size + 1 + 1, 0, none⟩) 4 4) [0, 1, 1, 2] := IL.blk (l := [0, 1, 1, 2]) i2b (by decide)
 clear i2b
 have ilb := Blk.new ((((w22).alloc (.cells #[.int .i64 0, .int .i64 2] 3)).alloc (.cells #[.int .i64 0, .int .i64 1, .int .i64 2] 3)).alloc (.cells #[.int .i64 0, .int .i64 1, .int .i64 1, .int .i64 2] 3)) 25 #[.slice (some ⟨w22.heap.size, 0, none⟩) 2 2, .slice (some ⟨w22.heap.size + 1, 0, none⟩) 3 3, .slice (some ⟨w22.heap.size + 1 + 1, 0, none⟩) 4 4]
 try simp only [World.size_alloc] at ilb
 have hba := (Below.refl ((((w22).alloc (.cells #[.int .i64 0, .int .i64 2] 3)).alloc (.cells #[.int .i64 0, .int .i64 1, .int .i64 2] 3)).alloc (.cells #[.int .i64 0, .int .i64 1, .int .i64 1, .int .i64 2] 3)).heap.size ((((w22).alloc (.cells #[.int .i64 0, .int .i64 2] 3)).alloc (.cells #[.int .i64 0, .int .i64 1, .int .i64 2] 3)).alloc (.cells #[.int .i64 0, .int .i64 1, .int .i64 1, .int .i64 2] 3))).alloc (Nat.le_refl _) (.cells #[.slice (some ⟨w22.heap.size, 0, none⟩) 2 2, .slice (some ⟨w22.heap.size + 1, 0, none⟩) 3 3, .slice (some ⟨w22.heap.size + 1 + 1, 0, none⟩) 4 4] 25)
 replace hE := hE.below hba
 replace h5 := h5.below hba
 replace h7 := h7.below hba
 replace h10 := h10.below hba
 replace h12 := h12.below hba
 replace hF := hF.below hba hF.lt
 replace h22 := h22.below hba
 replace hM := hM.below hba hM.lt
 replace hr := hr.below hba
 replace hX := hX.below hba hX.lt
 replace i0 := i0.below hba
 replace i1 := i1.below hba
 replace i2 := i2.below hba
 replace hB := hB.trans (hba.mono hB.size); clear hba
 have il : LL (((((w22).alloc (.cells #[.int .i64 0, .int .i64 2] 3)).alloc (.cells #[.int .i64 0, .int .i64 1, .int .i64 2] 3)).alloc (.cells #[.int .i64 0, .int .i64 1, .int .i64 1, .int .i64 2] 3)).alloc (.cells #[.slice (some ⟨w22.heap.size, 0, none⟩) 2 2, .slice (some ⟨w22.heap.size + 1, 0, none⟩) 3 3, .slice (some ⟨w22.heap.size + 1 + 1, 0, none⟩) 4 4] 25)) (.slice (some ⟨w22.heap.size + 1 + 1 + 1, 0, none⟩) 3 3) [[0, 2], [0, 1, 2], [0, 1, 1, 2]] := LL.blk (vs := [.slice (some ⟨w22.heap.size, 0, none⟩) 2 2, .slice (some ⟨w22.heap.size + 1, 0, none⟩) 3 3, .slice (some ⟨w22.heap.size + 1 + 1, 0, none⟩) 4 4]) (ls := [[0, 2], [0, 1, 2], [0, 1, 1, 2]]) ilb rfl (by simp) (fun k h1 h2 => by
   match k, h1 with
   | 0, _ => exact i0
   | 1, _ => exact i1
   | 2, _ => exact i2
   | k + 3, h1 => exact absurd h1 (by simp))
 clear ilb
 go_wp2_with fail
 refine (same_LL h5 il).mono ?_; rintro e w23 ⟨rfl, hb⟩
 replace hE := hE.below hb
 replace h5 := h5.below hb
 replace h7 := h7.below hb
 replace h10 := h10.below hb
 replace h12 := h12.below hb
 replace hF := hF.below hb hF.lt
 replace h22 := h22.below hb
 replace hM := hM.below hb hM.lt
 replace hr := hr.below hb
 replace hX := hX.below hb hX.lt
 replace i0 := i0.below hb
 replace i1 := i1.below hb
 replace i2 := i2.below hb
 replace il := il.below hb
 replace hB := hB.trans (hb.mono hB.size); clear hb
 clear il h5 i0 i1 i2
 have i0b := Blk.new (w23) 3 #[.int .i64 1]
 try simp only [World.size_alloc] at i0b
 have hba := (Below.refl (w23).heap.size (w23)).alloc (Nat.le_refl _) (.cells #[.int .i64 1] 3)
 replace hE := hE.below hba
 replace h7 := h7.below hba
 replace h10 := h10.below hba
 replace h12 := h12.below hba
 replace hF := hF.below hba hF.lt
 replace h22 := h22.below hba
 replace hM := hM.below hba hM.lt
 replace hr := hr.below hba
 replace hX := hX.below hba hX.lt
 replace hB := hB.trans (hba.mono hB.size); clear hba
 have i0 : IL ((w23).alloc (.cells #[.int .i64 1] 3)) (.slice (some ⟨w23.heap.size, 0, none⟩) 1 1) [1] := IL.blk (l := [1]) i0b (by decide)
 clear i0b
 have i1b := Blk.new ((w23).alloc (.cells #[.int .i64 1] 3)) 3 #[.int .i64 1, .int .i64 1]
 try simp only [World.size_alloc] at i1b
 have hba := (Below.refl ((w23).alloc (.cells #[.int .i64 1] 3)).heap.size ((w23).alloc (.cells #[.int .i64 1] 3))).alloc (Nat.le_refl _) (.cells #[.int .i64 1, .int .i64 1] 3)
 replace hE := hE.below hba
 replace h7 := h7.below hba
 replace h10 := h10.below hba
 replace h12 := h12.below hba
 replace hF := hF.below hba hF.lt
 replace h22 := h22.below hba
 replace hM := hM.below hba hM.lt
 replace hr := hr.below hba
 replace hX := hX.below hba hX.lt
 replace i0 := i0.below hba
 replace hB := hB.trans (hba.mono hB.size); clear hba
 have i1 : IL (((w23).alloc (.cells #[.int .i64 1] 3)).alloc (.cells #[.int .i64 1, .int .i64 1] 3)) (.slice (some ⟨w23.heap.size + 1, 0, none⟩) 2 2) [1, 1] := IL.blk (l := [1, 1]) i1b (by decide)
 clear i1b
 have i2b := Blk.new (((w23).alloc (.cells #[.int .i64 1] 3)).alloc (.cells #[.int .i64 1, .int .i64 1] 3)) 3 #[.int .i64 1, .int .i64 2]
 try simp only [World.size_alloc] at i2b
 have hba := (Below.refl (((w23).alloc (.cells #[.int .i64 1] 3)).alloc (.cells #[.int .i64 1, .int .i64 1] 3)).heap.size (((w23).alloc (.cells #[.int .i64 1] 3)).alloc (.cells #[.int .i64 1, .int .i64 1] 3))).alloc (Nat.le_refl _) (.cells #[.int .i64 1, .int .i64 2] 3)
 replace hE := hE.below hba
 replace h7 := h7.below hba
 replace h10 := h10.below hba
 replace h12 := h12.below hba
 replace hF := hF.below hba hF.lt
 replace h22 := h22.below hba
 replace hM := hM.below hba hM.lt
 replace hr := hr.below hba
 replace hX := hX.below hba hX.lt
 replace i0 := i0.below hba
 replace i1 := i1.below hba
 replace hB := hB.trans (hba.mono hB.size); clear hba
 have i2 : IL ((((w23).alloc (.cells #[.int .i64 1] 3)).alloc (.cells #[.int .i64 1, .int .i64 1] 3)).alloc (.cells #[.int .i64 1, .int .i64 2] 3)) (.slice (some ⟨w23.heap.size + 1 + 1, 0, none⟩) 2 2) [1, 2] := IL.blk (l := [1, 2]) i2b (by decide)
 clear i2b
 have ilb := Blk.new ((((w23).alloc (.cells #[.int .i64 1] 3)).alloc (.cells #[.int .i64 1, .int .i64 1] 3)).alloc (.cells #[.int .i64 1, .int .i64 2] 3)) 25 #[.slice (some ⟨w23.heap.size, 0, none⟩) 1 1, .slice (some ⟨w23.heap.size + 1, 0, none⟩) 2 2, .slice (some ⟨w23.heap.size + 1 + 1, 0, none⟩) 2 2]
 try simp only [World.size_alloc] at ilb
 have hba := (Below.refl ((((w23).alloc (.cells #[.int .i64 1] 3)).alloc (.cells #[.int .i64 1, .int .i64 1] 3)).alloc (.cells #[.int .i64 1, .int .i64 2] 3)).heap.size ((((w23).alloc (.cells #[.int .i64 1] 3)).alloc (.cells #[.int .i64 1, .int .i64 1] 3)).alloc (.cells #[.int .i64 1, .int .i64 2] 3))).alloc (Nat.le_refl _) (.cells #[.slice (some ⟨w23.heap.size, 0, none⟩) 1 1, .slice (some ⟨w23.heap.size + 1, 0, none⟩) 2 2, .slice (some ⟨w23.heap.size + 1 + 1, 0, none⟩) 2 2] 25)
 replace hE := hE.below hba
 replace h7 := h7.below hba
 replace h10 := h10.below hba
 replace h12 := h12.below hba
 replace hF := hF.below hba hF.lt
 replace h22 := h22.below hba
 replace hM := hM.below hba hM.lt
 replace hr := hr.below hba
 replace hX := hX.below hba hX.lt
 replace i0 := i0.below hba
 replace i1 := i1.below hba
 replace i2 := i2.below hba
 replace hB := hB.trans (hba.mono hB.size); clear hba
 have il : LL (((((w23).alloc (.cells #[.int .i64 1] 3)).alloc (.cells #[.int .i64 1, .int .i64 1] 3)).alloc (.cells #[.int .i64 1, .int .i64 2] 3)).alloc (.cells #[.slice (some ⟨w23.heap.size, 0, none⟩) 1 1, .slice (some ⟨w23.heap.size + 1, 0, none⟩) 2 2, .slice (some ⟨w23.heap.size + 1 + 1, 0, none⟩) 2 2] 25)) (.slice (some ⟨w23.heap.size + 1 + 1 + 1, 0, none⟩) 3 3) [[1], [1, 1], [1, 2]] := LL.blk (vs := [.slice (some ⟨w23.heap.size, 0, none⟩) 1 1, .slice (some ⟨w23.heap.size + 1, 0, none⟩) 2 2, .slice (some ⟨w23.heap.size + 1 + 1, 0, none⟩) 2 2]) (ls := [[1], [1, 1], [1, 2]]) ilb rfl (by simp) (fun k h1 h2 => by
   match k, h1 with
   | 0, _ => exact i0
   | 1, _ => exact i1
   | 2, _ => exact i2
   | k + 3, h1 => exact absurd h1 (by simp))
 clear ilb
 go_wp2_with fail
 refine (same_LL h7 il).mono ?_; rintro e w24 ⟨rfl, hb⟩
 replace hE := hE.below hb
 replace h7 := h7.below hb
 replace h10 := h10.below hb
 replace h12 := h12.below hb
 replace hF := hF.below hb hF.lt
 replace h22 := h22.below hb
 replace hM := hM.below hb hM.lt
 replace hr := hr.below hb
 replace hX := hX.below hb hX.lt
 replace i0 := i0.below hb
 replace i1 := i1.below hb
 replace i2 := i2.below hb
 replace il := il.below hb
 replace hB := hB.trans (hb.mono hB.size); clear hb
 clear il h7 i0 i1 i2
 go_upto_region 16 with fail
 have iab := Blk.new (w24) 3 #[.int .i64 1]
 try simp only [World.size_alloc] at iab
 have hba := (Below.refl (w24).heap.size (w24)).alloc (Nat.le_refl _) (.cells #[.int .i64 1] 3)
 replace hE := hE.below hba
 replace h10 := h10.below hba
 replace h12 := h12.below hba
 replace hF := hF.below hba hF.lt
 replace h22 := h22.below hba
 replace hM := hM.below hba hM.lt
 replace hr := hr.below hba
 replace hX := hX.below hba hX.lt
 replace hB := hB.trans (hba.mono hB.size); clear hba
 have ia : IL ((w24).alloc (.cells #[.int .i64 1] 3)) (.slice (some ⟨w24.heap.size, 0, none⟩) 1 1) [1] := IL.blk (l := [1]) iab (by decide)
 clear iab
 go_wp2_with fail
 refine (same_IL h10 ia).mono ?_; rintro e w25 ⟨rfl, hb⟩
 replace hE := hE.below hb
 replace h10 := h10.below hb
 replace h12 := h12.below hb
 replace hF := hF.below hb hF.lt
 replace h22 := h22.below hb
 replace hM := hM.below hb hM.lt
 replace hr := hr.below hb
 replace hX := hX.below hb hX.lt
 replace ia := ia.below hb
 replace hB := hB.trans (hb.mono hB.size); clear hb
 clear ia h10
 have i0b := Blk.new (w25) 3 #[.int .i64 0, .int .i64 1, .int .i64 2]
 try simp only [World.size_alloc] at i0b
 have hba := (Below.refl (w25).heap.size (w25)).alloc (Nat.le_refl _) (.cells #[.int .i64 0, .int .i64 1, .int .i64 2] 3)
 replace hE := hE.below hba
 replace h12 := h12.below hba
 replace hF := hF.below hba hF.lt
 replace h22 := h22.below hba
 replace hM := hM.below hba hM.lt
 replace hr := hr.below hba
 replace hX := hX.below hba hX.lt
 replace hB := hB.trans (hba.mono hB.size); clear hba
 have i0 : IL ((w25).alloc (.cells #[.int .i64 0, .int .i64 1, .int .i64 2] 3)) (.slice (some ⟨w25.heap.size, 0, none⟩) 3 3) [0, 1, 2] := IL.blk (l := [0, 1, 2]) i0b (by decide)
 clear i0b
 have i1b := Blk.new ((w25).alloc (.cells #[.int .i64 0, .int .i64 1, .int .i64 2] 3)) 3 #[.int .i64 1]
 try simp only [World.size_alloc] at i1b
 have hba := (Below.refl ((w25).alloc (.cells #[.int .i64 0, .int .i64 1, .int .i64 2] 3)).heap.size ((w25).alloc (.cells #[.int .i64 0, .int .i64 1, .int .i64 2] 3))).alloc (Nat.le_refl _) (.cells #[.int .i64 1] 3)
 replace hE := hE.below hba
 replace h12 := h12.below hba
 replace hF := hF.below hba hF.lt
 replace h22 := h22.below hba
 replace hM := hM.below hba hM.lt
 replace hr := hr.below hba
 replace hX := hX.below hba hX.lt
 replace i0 := i0.below hba
 replace hB := hB.trans (hba.mono hB.size); clear hba
 have i1 : IL (((w25).alloc (.cells #[.int .i64 0, .int .i64 1, .int .i64 2] 3)).alloc (.cells #[.int .i64 1] 3)) (.slice (some ⟨w25.heap.size + 1, 0, none⟩) 1 1) [1] := IL.blk (l := [1]) i1b (by decide)
 clear i1b
 have ilb := Blk.new (((w25).alloc (.cells #[.int .i64 0, .int .i64 1, .int .i64 2] 3)).alloc (.cells #[.int .i64 1] 3)) 25 #[.slice (some ⟨w25.heap.size, 0, none⟩) 3 3, .slice (some ⟨w25.heap.size + 1, 0, none⟩) 1 1]
 try simp only [World.size_alloc] at ilb
 have hba := (Below.refl (((w25).alloc (.cells #[.int .i64 0, .int .i64 1, .int .i64 2] 3)).alloc (.cells #[.int .i64 1] 3)).heap.size (((w25).alloc (.cells #[.int .i64 0, .int .i64 1, .int .i64 2] 3)).alloc (.cells #[.int .i64 1] 3))).alloc (Nat.le_refl _) (.cells #[.slice (some ⟨w25.heap.size, 0, none⟩) 3 3, .slice (some ⟨w25.heap.size + 1, 0, none⟩) 1 1] 25)
 replace hE := hE.below hba
 replace h12 := h12.below hba
 replace hF := hF.below hba hF.lt
 replace h22 := h22.below hba
 replace hM := hM.below hba hM.lt
 replace hr := hr.below hba
 replace hX := hX.below hba hX.lt
 replace i0 := i0.below hba
 replace i1 := i1.below hba
 replace hB := hB.trans (hba.mono hB.size); clear hba
 have il : LL ((((w25).alloc (.cells #[.int .i64 0, .int .i64 1, .int .i64 2] 3)).alloc (.cells #[.int .i64 1] 3)).alloc (.cells #[.slice (some ⟨w25.heap.size, 0, none⟩) 3 3, .slice (some ⟨w25.heap.size + 1, 0, none⟩) 1 1] 25)) (.slice (some ⟨w25.heap.size + 1 + 1, 0, none⟩) 2 2) [[0, 1, 2], [1]] := LL.blk (vs := [.slice (some ⟨w25.heap.size, 0, none⟩) 3 3, .slice (some ⟨w25.heap.size + 1, 0, none⟩) 1 1]) (ls := [[0, 1, 2], [1]]) ilb rfl (by simp) (fun k h1 h2 => by
   match k, h1 with
   | 0, _ => exact i0
   | 1, _ => exact i1
   | k + 2, h1 => exact absurd h1 (by simp))
 clear ilb
 go_wp2_with fail
 refine (same_LL h12 il).mono ?_; rintro e w26 ⟨rfl, hb⟩
 replace hE := hE.below hb
 replace h12 := h12.below hb
 replace hF := hF.below hb hF.lt
 replace h22 := h22.below hb
 replace hM := hM.below hb hM.lt
 replace hr := hr.below hb
 replace hX := hX.below hb hX.lt
 replace i0 := i0.below hb
 replace i1 := i1.below hb
 replace il := il.below hb
 replace hB := hB.trans (hb.mono hB.size); clear hb
 clear il h12 i0 i1
 have qF := fun i => hF.cell i; have lF := hF.lt
 go_upto_region 18 with fail
 have iab := Blk.new (w26) 3 #[.int .i64 3, .int .i64 (-1), .int .i64 0, .int .i64 (-1)]
 try simp only [World.size_alloc] at iab
 have hba := (Below.refl (w26).heap.size (w26)).alloc (Nat.le_refl _) (.cells #[.int .i64 3, .int .i64 (-1), .int .i64 0, .int .i64 (-1)] 3)
 replace hE := hE.below hba
 replace hF := hF.below hba hF.lt
 replace h22 := h22.below hba
 replace hM := hM.below hba hM.lt
 replace hr := hr.below hba
 replace hX := hX.below hba hX.lt
 replace hB := hB.trans (hba.mono hB.size); clear hba
 have ia : IL ((w26).alloc (.cells #[.int .i64 3, .int .i64 (-1), .int .i64 0, .int .i64 (-1)] 3)) (.slice (some ⟨w26.heap.size, 0, none⟩) 4 4) [3, -1, 0, -1] := IL.blk (l := [3, -1, 0, -1]) iab (by decide)
 clear iab
 go_wp2_with fail
 refine (same_IL h22 ia).mono ?_; rintro e w27 ⟨rfl, hb⟩
 replace hE := hE.below hb
 replace hF := hF.below hb hF.lt
 replace h22 := h22.below hb
 replace hM := hM.below hb hM.lt
 replace hr := hr.below hb
 replace hX := hX.below hb hX.lt
 replace ia := ia.below hb
 replace hB := hB.trans (hb.mono hB.size); clear hb
 clear ia h22
 clear qF lF
 have qM := fun i => hM.cell i; have lM := hM.lt; have qX := fun i => hX.cell i; have lX := hX.lt
 go_wp2_with fail
 refine (kPrint _ _ hr).mono ?_; rintro e w28 ⟨rfl, hb⟩
 replace hE := hE.below hb
 replace hF := hF.below hb hF.lt
 replace hM := hM.below hb hM.lt
 replace hr := hr.below hb
 replace hX := hX.below hb hX.lt
 replace hB := hB.trans (hb.mono hB.size); clear hb
 have hkt := is_ktext
 go_wp2_with fail
 go_ret
 exact ⟨rfl, hB⟩
end
section
open Go.RowKit Go.Lib
def BkI (w : World) (A : Option Addr) (n cap : Nat) (cs : List VC) : Prop := n ≤ cap ∧ cap ≤ maxLen ∧ Rd w w.heap.size 1 A n (cs.map VC.val) ∧ ∀ c ∈ cs, c.ok w w.heap.size
theorem BkI.toW {w w' : World} {A : Option Addr} {n cap : Nat} {cs : List VC} (h : BkI w A n cap cs) (hb : Below w.heap.size w w') : BkI w' A n cap cs := ⟨h.1, h.2.1, rdB h.2.2.1 hb, fun c hc => okB (h.2.2.2 c hc) hb⟩
theorem BkI.max {w : World} {A : Option Addr} {n cap : Nat} {cs : List VC} (h : BkI w A n cap cs) : n ≤ maxLen := Nat.le_trans h.1 h.2.1
theorem BkI.len {w : World} {A : Option Addr} {n cap : Nat} {cs : List VC} (h : BkI w A n cap cs) : cs.length = n := by simpa using h.2.2.1.len
def SomeB (e : Ending) : Prop := ∃ b : Bool, e = .returned (.bool b)
theorem short_any (W : Int) (A : Option Addr) (n cap : Nat) (cs : List VC) (w : World) (hb : BkI w A n cap cs) : Calls Tryz.prog 23 #[.agg #[.int .i64 W, .slice A n cap]] w fun e w' => SomeB e ∧ Below w.heap.size w w' := by
 have hB : Below w.heap.size w (w.alloc (.cells #[.int .i64 W, .slice A n cap] 24)) := (Below.refl _ w).alloc (Nat.le_refl _) _
 have hX := Blk.new w 24 #[.int .i64 W, .slice A n cap]
 have hbI := hb.toW hB
 have hmx := hb.max
 clear hb
 go_enter Tryz.func23, Tryz.ntmps23
 go_upto_region 1 with fail
 generalize w.alloc (.cells #[.int .i64 W, .slice A n cap] 24) = W0 at *
 have qX := fun i => hX.cell i
 unfold maxLen at hmx
 go_wp2_with fail
 go_loop [3] (fun i => ∃ k : Nat, k ≤ 7 ∧ i = .int .i64 k) (fun i => 7 - (intOf i).toNat)
 case atStart => exact ⟨0, by omega, rfl⟩
 case round =>
  obtain ⟨k, hk, rfl⟩ := hrel
  by_cases h1 : k < n
  ·have h1i : (k : Int) < n := by omega
   by_cases h2 : k < 7
   ·have h2i : (k : Int) < 7 := by omega
    obtain ⟨b, off, hzk, rfl, hbw, hcell⟩ := hbI.2.2.1.atm (show k < n by omega)
    have hco := hbI.2.2.2 _ (List.getElem_mem hzk)
    generalize cs[k] = c at *
    obtain ⟨cA, cn, ccap, cls⟩ := c
    obtain ⟨c1, c2, c3, c4⟩ := hco
    simp only [VC.val] at hcell c1 c2 c3 c4
    have hcm : cn ≤ maxLen := Nat.le_trans c1 c2
    unfold maxLen at hcm
    clear hzk
    go_wp2_with fail
    go_loop [4] (fun i => ∃ q : Nat, q ≤ 6 ∧ i = .int .i64 q) (fun i => 6 - (intOf i).toNat)
    case atStart => exact ⟨0, by omega, rfl⟩
    case round =>
     obtain ⟨q, hq, rfl⟩ := hrel
     by_cases h3 : q < cn
     ·have h3i : (q : Int) < cn := by omega
      by_cases h4 : q < 6
      ·have h4i : (q : Int) < 6 := by omega
       obtain ⟨b2, off2, hz2, rfl, hb2, hv0, hv1⟩ := c4.at2 h3
       have hlo := c3 _ (List.getElem_mem hz2)
       generalize cls[q] = l at *
       obtain ⟨lost, lA, ln, lcap, lws⟩ := l
       simp only at hv0 hv1
       clear hz2 hlo
       by_cases h5 : (6 : Int) < (ln : Int)
       ·go_wp2_with fail
        go_ret
        exact ⟨⟨_, rfl⟩, hB⟩
       ·go_wp2_with fail
        go_round
        case rel => exact ⟨q + 1, by omega, by go_num⟩
        case measure => simp [intOf]; omega
      ·have h4i : ¬ (q : Int) < 6 := by omega
       have h5 : (6 : Int) < (cn : Int) := by omega
       go_wp2_with fail
       go_ret
       exact ⟨⟨_, rfl⟩, hB⟩
     ·have h3i : ¬ (q : Int) < cn := by omega
      have h5 : ¬ (6 : Int) < (cn : Int) := by omega
      go_wp2_with fail
      go_round
      case rel => exact ⟨k + 1, by omega, by go_num⟩
      case measure => simp [intOf]; omega
   ·have h2i : ¬ (k : Int) < 7 := by omega
    go_wp2_with fail
    go_ret
    exact ⟨⟨_, rfl⟩, hB⟩
  ·have h1i : ¬ (k : Int) < n := by omega
   go_wp2_with fail
   go_ret
   exact ⟨⟨_, rfl⟩, hB⟩
def okCp (W : Int) (h : Nat) (c : VC) : Bool := c.ls.length == h && c.ls.all (vlB W)
theorem refBook_any (W : Int) (A : Option Addr) (n cap : Nat) (cs : List VC) (w : World) (hb : BkI w A n cap cs) : Calls Tryz.prog 27 #[.agg #[.int .i64 W, .slice A n cap]] w fun e w' => e = .returned (.bool (bookB W cs)) ∧ Below w.heap.size w w' := by
 have hB : Below w.heap.size w (w.alloc (.cells #[.int .i64 W, .slice A n cap] 24)) := (Below.refl _ w).alloc (Nat.le_refl _) _
 have hX := Blk.new w 24 #[.int .i64 W, .slice A n cap]
 have hlen := hb.len
 have hmx := hb.max
 obtain ⟨R, hR⟩ : ∃ R, R = bookB W cs := ⟨_, rfl⟩
 rw [← hR]
 have hR2 : R = (inB W 1 3 && inB (n : Int) 1 5 && inB (headN cs) 1 4 && cs.all (okCp W (headN cs))) := by rw [hR, ← hlen]; rfl
 clear hR
 have HR := Lib.hid hR2; have HL := Lib.hid hlen; clear hR2 hlen
 by_cases hW : inB W 1 3 = true
 ·by_cases hN : inB (n : Int) 1 5 = true
  ·have hW' : 1 ≤ W ∧ W ≤ 3 := by simpa [inB] using hW
   have hN' : 1 ≤ (n : Int) ∧ (n : Int) ≤ 5 := by simpa [inB] using hN
   obtain ⟨hn1, hn5⟩ : 1 ≤ n ∧ n ≤ 5 := by omega
   have HWW := Lib.hid hW; have HNN := Lib.hid hN
   go_enter Tryz.func27, Tryz.ntmps27
   go_upto_region 1 with fail
   have hbI := hb.toW hB
   generalize w.alloc (.cells #[.int .i64 W, .slice A n cap] 24) = W0 at *
   have qX := fun i => hX.cell i
   have hin1 := in_any W 1 3; have hin2 := in_any (n : Int) 1 5
   rw [hW] at hin1; rw [hN] at hin2
   clear hW hN
   go_wp2_with fail
   refine (hin1 _).mono ?_; rintro e w1 ⟨rfl, rfl⟩
   go_wp2_with fail
   refine (hin2 _).mono ?_; rintro e w1 ⟨rfl, rfl⟩
   clear hin1 hin2
   obtain ⟨b, off, hz0, rfl, hbw, hcell0⟩ := hbI.2.2.1.atm (show 0 < n by omega)
   obtain ⟨cn0, hcn0⟩ : ∃ cn0, cn0 = cs[0].n := ⟨_, rfl⟩
   have hh0 : headN cs = cn0 := by
    have h7 := (hbI.2.2.2 _ (List.getElem_mem hz0)).2.2.2.len2
    rw [hcn0, ← h7]
    unfold headN
    cases cs with
    | nil => cases hz0
    | cons a b => rfl
   have hm0 : cn0 ≤ maxLen := by rw [hcn0]; have h7 := hbI.2.2.2 _ (List.getElem_mem hz0); exact Nat.le_trans h7.1 h7.2.1
   rw [Nat.add_zero] at hcell0
   have hcell0' : W0.cell? ⟨b, off, none⟩ = some (.slice cs[0].A cn0 cs[0].cap) := by rw [hcell0, hcn0]; rfl
   generalize cs[0].A = a0 at *
   generalize cs[0].cap = k0 at *
   clear hcell0 hcn0
   rw [hh0] at HR
   have HH0 := Lib.hid hh0; clear hh0 hz0
   unfold maxLen at hm0
   go_wp2_with fail
   go_loopg [3] n (fun g i wr => ∃ k : Nat, g = n - k ∧ k ≤ n ∧ i = .int .i64 k ∧ Hid ((cs.take k).all (okCp W cn0) = true) ∧ Below w.heap.size w wr ∧ Blk wr w.heap.size 24 #[.int .i64 W, .slice (some ⟨b, off, none⟩) n cap] ∧ Below W0.heap.size W0 wr)
   case atStart => exact ⟨0, rfl, Nat.zero_le _, rfl, Lib.hid rfl, hB, hX, Below.refl _ _⟩
   case round =>
    clear hB hX qX
    obtain ⟨k, hg, hk, rfl, hpre, hB, hX, hB0⟩ := hrel
    rename World => W2
    have HG := Lib.hid hg; clear hg
    have qX := fun i => hX.cell i
    by_cases hlt : k < n
    ·have hlti : (k : Int) < n := by omega
     have hb2 := hbI.toW hB0
     obtain ⟨b', off', hzk, e', hbw2, hcell⟩ := hb2.2.2.1.atm (show k < n by omega)
     cases e'
     have hc0 := (hB0.cell (p := ⟨b, off, none⟩) hbw).trans hcell0'
     have hco := hb2.2.2.2 _ (List.getElem_mem hzk)
     have htk : (cs.take (k + 1)).all (okCp W cn0) = ((cs.take k).all (okCp W cn0) && okCp W cn0 cs[k]) := by rw [List.take_succ_eq_append_getElem hzk, List.all_append]; simp
     have hbad : okCp W cn0 cs[k] = false → R = false := fun h => by
      have h8 : cs.all (okCp W cn0) = false := by
       rw [List.all_eq_false]
       exact ⟨_, List.getElem_mem hzk, by rw [h]; decide⟩
      have h9 := HR.out
      rw [h8] at h9
      rw [h9]; simp
     generalize cs[k] = c at *
     obtain ⟨cA, cn, ccap, cls⟩ := c
     obtain ⟨c1, c2, c3, c4⟩ := hco
     simp only [VC.val] at hcell c1 c2 c3 c4
     have hcm : cn ≤ maxLen := Nat.le_trans c1 c2
     have hcl := c4.len2
     have HTK := Lib.hid htk; have HBAD := Lib.hid hbad; have HCL := Lib.hid hcl
     clear hzk htk hbad hcl
     have hcm2 := hcm
     unfold maxLen at hcm2
     have hq1 := fun (p : Blw W2.heap.size W2) => ((Blw.h p).cell (p := ⟨b, off + k, none⟩) hbw2).trans hcell
     have hq2 := fun (p : Blw W2.heap.size W2) => ((Blw.h p).cell (p := ⟨b, off, none⟩) (Nat.lt_of_lt_of_le hbw hB0.size)).trans hc0
     have hq3 := fun (p : Blw W2.heap.size W2) i => blw_blk hX p i
     have hlX := hX.lt
     have hn0 : (0 : Int) < (n : Int) := by omega
     go_upto_region 6 with fail
     refine wp_region_blw (by kernel_rfl) (by kernel_rfl) ?_
     repeat (go_big_quiet_step (fail))
     refine wpQuiet_nil ?_
     rintro W3 ⟨⟨_, hb3⟩, rfl⟩
     clear hq1 hq2 hq3 qX hlX
     replace hX := hX.below hb3 hX.lt; replace hB := hB.trans (hb3.mono hB.size); replace hB0 := hB0.trans (hb3.mono hB0.size)
     replace hcell := (hb3.cell (p := ⟨b, off + k, none⟩) hbw2).trans hcell
     have qX := fun i => hX.cell i
     by_cases hcc : cn = cn0
     ·subst hcc
      have c4' := (c4.below hb3).more hb3.size
      clear hc0
      have hcc0 : ((cn : Int) != (cn : Int)) = false := by simp
      rw [hcc0]
      clear hcc0
      go_wp2_with fail
      go_loopg [4] cn (fun g i wr => ∃ q : Nat, g = cn - q ∧ q ≤ cn ∧ i = .int .i64 q ∧ Hid ((cls.take q).all (vlB W) = true) ∧ Below w.heap.size w wr ∧ Blk wr w.heap.size 24 #[.int .i64 W, .slice (some ⟨b, off, none⟩) n cap] ∧ Below W3.heap.size W3 wr)
      case atStart => exact ⟨0, rfl, Nat.zero_le _, rfl, Lib.hid rfl, hB, hX, Below.refl _ _⟩
      case round =>
       clear hX hB qX
       obtain ⟨q, hg, hq, rfl, hpre2, hB, hX, hB3⟩ := hrel
       rename World => W4
       have HG2 := Lib.hid hg; clear hg
       have qX := fun i => hX.cell i
       have hc9 := (hB3.cell (p := ⟨b, off + k, none⟩) (Nat.lt_of_lt_of_le hbw2 hb3.size)).trans hcell
       by_cases hqt : q < cn
       ·have hqti : (q : Int) < cn := by omega
        obtain ⟨b2, off2, hz2, rfl, hb2', hv0, hv1⟩ := (c4'.below hB3).at2 hqt
        have hlo := c3 _ (List.getElem_mem hz2)
        have htk2 : (cls.take (q + 1)).all (vlB W) = ((cls.take q).all (vlB W) && vlB W cls[q]) := by rw [List.take_succ_eq_append_getElem hz2, List.all_append]; simp
        have hbad2 : vlB W cls[q] = false → R = false := fun h => HBAD.out (by
          unfold okCp
          have h8 : cls.all (vlB W) = false := by
            rw [List.all_eq_false]
            exact ⟨_, List.getElem_mem hz2, by rw [h]; decide⟩
          show (cls.length == cn && cls.all (vlB W)) = false
          rw [h8]; simp)
        have hvl : vlB W cls[q] = (lnB W cls[q].ws && !(cls[q].lost && decide (0 < cls[q].ws.length))) := rfl
        generalize cls[q] = l at *
        obtain ⟨lost, lA, ln, lcap, lws⟩ := l
        obtain ⟨l1, l2, l3⟩ := hlo
        simp only at hv0 hv1 l1 l2 l3 hvl
        have hlm : ln ≤ maxLen := Nat.le_trans l1 l2
        have hll : lws.length = ln := by simpa using l3.len
        rw [hll] at hvl
        have HVL := Lib.hid hvl; have HTK2 := Lib.hid htk2; have HBAD2 := Lib.hid hbad2
        clear hvl htk2 hbad2 hz2 hll
        have hlm2 := hlm
        unfold maxLen at hlm2
        have l4 := ((l3.below hb3).more hb3.size)
        have l5 := (l4.below hB3).more hB3.size
        have hrl := fun (wx : World) (hx : Below W4.heap.size W4 wx) => refLine_any W (some ⟨b, off, none⟩) n cap lA ln lcap lws wx (by omega) (by omega) hlm ((l5.below hx).more hx.size)
        have HRL := Lib.hid hrl
        clear hrl l1 l2 l3 l4 l5 hlm
        have hAl : Below W4.heap.size W4 (W4.alloc (.cells #[.bool lost, .slice lA ln lcap] 76)) := (Below.refl _ W4).alloc (Nat.le_refl _) _
        have hY := Blk.new W4 76 #[.bool lost, .slice lA ln lcap]
        have hY2 := hY.lt
        have qY := fun i => hY.cell i
        cases hln : lnB W lws with
        | false =>
         have hrl := HRL.out
         simp only [hln] at hrl
         have hRf : R = false := HBAD2.out (by rw [HVL.out, hln]; rfl)
         have HR5 := Lib.hid hrl; have HRF := Lib.hid hRf; clear hrl hRf hln
         go_upto_region 12 with fail
         replace hB := hB.trans (hAl.mono hB.size); replace hX := hX.below hAl hX.lt
         clear qX
         have qX := fun i => hX.cell i
         go_wp2_with fail
         refine (HR5.out _ hAl).mono ?_; rintro e w7 ⟨rfl, hb⟩
         replace hB := hB.trans (hb.mono hB.size)
         clear qX qY hY2 hv0 hv1 hc9
         go_wp2_with fail
         go_ret
         exact ⟨by rw [HRF.out]; rfl, hB⟩
        | true =>
         have hrl := HRL.out
         simp only [hln] at hrl
         have hv2 := HVL.out
         rw [hln, Bool.true_and] at hv2
         have HR5 := Lib.hid hrl; have HV2 := Lib.hid hv2; clear hrl hln hv2
         go_upto_region 12 with fail
         replace hB := hB.trans (hAl.mono hB.size); replace hX := hX.below hAl hX.lt; replace hB3 := hB3.trans (hAl.mono hB3.size)
         clear qX
         have qX := fun i => hX.cell i
         go_wp2_with fail
         refine (HR5.out _ hAl).mono ?_; rintro e w7 ⟨rfl, hb⟩
         replace hB := hB.trans (hb.mono hB.size); replace hX := hX.below hb hX.lt; replace hY := hY.below hb hY.lt; replace hB3 := hB3.trans (hb.mono hB3.size)
         clear qX qY hY2 hv0 hv1 hc9 hb
         have qY := fun i => hY.cell i
         have hlY := hY.lt
         cases lost with
         | true =>
          by_cases hp : 0 < ln
          ·have hpi : (0 : Int) < (ln : Int) := by omega
           have hRf : R = false := HBAD2.out (by rw [HVL.out]; simp [hp])
           have HRF := Lib.hid hRf; clear hRf
           go_wp2_with fail
           go_ret
           exact ⟨by rw [HRF.out]; rfl, hB⟩
          ·have hpi : ¬ (0 : Int) < (ln : Int) := by omega
           have hok : (cls.take (q + 1)).all (vlB W) = true := by rw [HTK2.out, hpre2.out, HV2.out]; simp [hp]
           have HOK := Lib.hid hok; clear hok
           go_wp2_with fail
           go_roundg (cn - (q + 1))
           case measure => rw [HG2.out]; omega
           case rel => exact ⟨q + 1, rfl, by omega, by go_num, HOK, hB, hX, hB3⟩
         | false =>
          have hok : (cls.take (q + 1)).all (vlB W) = true := by rw [HTK2.out, hpre2.out, HV2.out]; rfl
          have HOK := Lib.hid hok; clear hok
          go_wp2_with fail
          go_roundg (cn - (q + 1))
          case measure => rw [HG2.out]; omega
          case rel => exact ⟨q + 1, rfl, by omega, by go_num, HOK, hB, hX, hB3⟩
       ·obtain rfl : q = cn := by omega
        have hge : ¬ (q : Int) < q := by omega
        have hok : (cs.take (k + 1)).all (okCp W q) = true := by
         rw [HTK.out, hpre.out]
         have h8 := hpre2.out
         rw [List.take_of_length_le (by rw [HCL.out]; exact Nat.le_refl _)] at h8
         unfold okCp
         rw [HCL.out, h8]; simp
        have HOK := Lib.hid hok; clear hok
        replace hB0 := hB0.trans (hB3.mono (by have := hB0.size; have := hb3.size; omega))
        go_wp2_with fail
        go_roundg (n - (k + 1))
        case measure => rw [HG.out]; omega
        case rel => exact ⟨k + 1, rfl, by omega, by go_num, HOK, hB, hX, hB0⟩
     ·have hne : ((cn : Int) != (cn0 : Int)) = true := by simp; omega
      have hRf : R = false := HBAD.out (by
        unfold okCp
        rw [HCL.out]
        have : (cn == cn0) = false := by simpa using hcc
        rw [this]; rfl)
      have HRF := Lib.hid hRf; clear hRf hcc
      go_wp2_with fail
      go_ret
      exact ⟨by rw [HRF.out]; rfl, hB⟩
    ·obtain rfl : k = n := by omega
     have hge : ¬ (k : Int) < k := by omega
     have hc0 := (hB0.cell (p := ⟨b, off, none⟩) hbw).trans hcell0'
     have hRr : R = inB (cn0 : Int) 1 4 := by
      have h8 := hpre.out
      rw [List.take_of_length_le (by rw [HL.out]; exact Nat.le_refl _)] at h8
      rw [HR.out, HWW.out, HNN.out, h8]; simp
     have HRR := Lib.hid hRr; clear hRr
     have hin := in_any (cn0 : Int) 1 4
     have hk0 : (0 : Int) < (k : Int) := by omega
     go_wp2_with fail
     refine (hin _).mono ?_; rintro e w7 ⟨rfl, rfl⟩
     go_wp2_with fail
     go_ret
     exact ⟨by rw [HRR.out]; rfl, hB⟩
  ·have hRf : R = false := by rw [HR.out]; have := Bool.eq_false_iff.2 hN; rw [this]; simp
   have HRF := Lib.hid hRf; clear hRf
   have hin1 := in_any W 1 3; have hin2 := in_any (n : Int) 1 5
   rw [hW] at hin1; rw [Bool.eq_false_iff.2 hN] at hin2
   clear hW hN HR
   have qX := fun i => hX.cell i
   go_enter Tryz.func27, Tryz.ntmps27
   go_wp2_with fail
   refine (hin1 _).mono ?_; rintro e w1 ⟨rfl, rfl⟩
   go_wp2_with fail
   refine (hin2 _).mono ?_; rintro e w1 ⟨rfl, rfl⟩
   go_wp2_with fail
   go_ret
   exact ⟨by rw [HRF.out]; rfl, hB⟩
 ·have hRf : R = false := by rw [HR.out]; have := Bool.eq_false_iff.2 hW; rw [this]; rfl
  have HRF := Lib.hid hRf; clear hRf
  have hin1 := in_any W 1 3
  rw [Bool.eq_false_iff.2 hW] at hin1
  clear hW HR
  have qX := fun i => hX.cell i
  go_enter Tryz.func27, Tryz.ntmps27
  go_wp2_with fail
  refine (hin1 _).mono ?_; rintro e w1 ⟨rfl, rfl⟩
  go_wp2_with fail
  go_ret
  exact ⟨by rw [HRF.out]; rfl, hB⟩
end
section
open Go.RowKit Go.Lib
def IA (w : World) (A : Option Addr) (n cap : Nat) (l : List Int) : Prop := n ≤ cap ∧ cap ≤ maxLen ∧ Rd w w.heap.size 1 A n (l.map (Value.int .i64))
end
section
open Go.ChangeShapes Go.WideShapes Go.ChangeAt Go.RowKit Go.Deep Go.Lib
set_option maxRecDepth 100000
section
variable {H : Type} {enc : TypeId × Value → H} {P : Program} {w : World} {base : Nat} {spare : Nat → Bool} {held : Bool} {r : Reach} {b0 : Nat} {v : Value} {d : DataW H} {p : List MemPlace}
theorem flatc_len {α : Type} (c : α → List Value) (sz : Nat) (hc : ∀ a, (c a).length = sz) : ∀ l : List α, (l.flatMap c).length = l.length * sz
 | [] => by simp
 | a :: l => by rw [List.flatMap_cons, List.length_append, flatc_len c sz hc l, hc, List.length_cons, Nat.add_mul, Nat.one_mul, Nat.add_comm]
theorem flatc_at {α : Type} (c : α → List Value) (sz : Nat) (hc : ∀ a, (c a).length = sz) : ∀ (l : List α) (k j : Nat) (hk : k < l.length), j < sz → (l.flatMap c)[k * sz + j]? = (c l[k])[j]?
 | [], k, j, hk, _ => by simp at hk
 | a :: l, 0, j, _, hj => by rw [List.flatMap_cons, List.getElem?_append_left (by rw [hc]; omega)]; simp
 | a :: l, k + 1, j, hk, hj => by
  rw [List.flatMap_cons, List.getElem?_append_right (by rw [hc, Nat.add_mul]; omega)]
  have e : (k + 1) * sz + j - (c a).length = k * sz + j := by rw [hc, Nat.add_mul]; omega
  rw [e]
  exact flatc_at c sz hc l k j (by simpa using hk) hj
theorem slice_ints_in {fuel : Nat} {t e : TypeId} {k : Nat} {c : Value} {y : DataW H × List MemPlace} (hk : 0 < k) (ht : P.underlying t = some (.slice e)) (ha : AllInt enc P w base spare held e k) (h : DataW.trod enc P w base spare held fuel t [c] = some y) : IntsIn w k c := by
 rcases open_slice ht h with ⟨hc, _⟩ | ⟨a, len, cap, m, n, D, Pl, hc, _, hl, hm, hmm, _, hx⟩
 ·obtain rfl : c = .slice none 0 0 := by simpa using hc
  exact ⟨none, 0, 0, [], rfl, Nat.le_refl _, Nat.zero_le _, Rd.nil ..⟩
 ·obtain rfl : c = .slice (some a) len cap := by simpa using hc
  have hlm : len ≤ m := by rw [hmm]; split <;> omega
  have each : ∀ i, ∃ g : Nat → Int, i < len → ∀ j, j < k → w.cell? ((a.add (i * k)).add j) = some (.int .i64 (g j)) := by
   intro i
   by_cases hi : i < len
   ·obtain ⟨cs', h1, h2⟩ := hx i (by omega)
    rw [ha.1] at h1
    obtain ⟨_, hcl, hat⟩ := World.cells?_some h1
    obtain ⟨ns, h3, h4⟩ := ha.2 _ _ _ rfl h2
    refine ⟨fun j => ns.getD j 0, fun _ j hj => ?_⟩
    rw [hat j hj, h4, List.getElem?_map, List.getElem?_eq_getElem (by omega)]
    simp [List.getD_eq_getElem?_getD, h3, hj]
   ·exact ⟨fun _ => 0, fun h => absurd h hi⟩
  obtain ⟨g, hg⟩ : ∃ g : Nat → Nat → Int, ∀ i, i < len → ∀ j, j < k → w.cell? ((a.add (i * k)).add j) = some (.int .i64 (g i j)) :=
   ⟨fun i => Classical.choose (each i), fun i => Classical.choose_spec (each i)⟩
  refine ⟨some a, len, cap, (List.range len).map g, rfl, hl, hm, by rw [flatc_len _ k (rowC_len k)]; simp, fun h0 => ?_⟩
  have g0 := hg 0 h0 0 hk
  obtain ⟨b, off, spot⟩ := a
  have hspot : spot = none := by
   have := World.cell?_spot g0
   simp only [Nat.zero_mul, Addr.add] at this
   simpa using this
  subst hspot
  have hb : b < w.heap.size := by have := block_lt_of_cell g0; simpa [Addr.add] using this
  refine ⟨b, off, rfl, hb, fun q u hu => ?_⟩
  have hq : q < len * k := by
   rcases Nat.lt_or_ge q (len * k) with h | h
   ·exact h
   ·rw [List.getElem?_eq_none (by rw [flatc_len _ k (rowC_len k)]; simpa using h)] at hu; cases hu
  have hi : q / k < len := by rw [Nat.div_lt_iff_lt_mul hk]; exact hq
  have hj : q % k < k := Nat.mod_lt _ hk
  have hqe : q = q / k * k + q % k := by rw [Nat.mul_comm]; exact (Nat.div_add_mod q k).symm
  rw [hqe, flatc_at _ k (rowC_len k) _ (q / k) (q % k) (by simpa using hi) hj] at hu
  simp only [List.getElem_map, List.getElem_range, rowC, List.getElem?_map, List.getElem?_range hj, Option.map_some, Option.some.injEq] at hu
  rw [← hu, ← hg (q / k) hi (q % k) hj]
  congr 1
  rw [add_of_add, ← hqe]
  unfold Addr.add
  by_cases h : q = 0 <;> simp [h]
end
theorem law_own : ownKnob Tryz.prog.godebug = none := by kernel_rfl
theorem law_laidOut : laidOutB Tryz.prog = true := by kernel_rfl
theorem law_maxLen {W : World} (h : W.ShapedOpen Tryz.prog) : ∃ m, W.cell? ⟨0, 0, none⟩ = some (.int .i64 m) := cell_of_shapedOpen_int h (t := 3) (zero := #[.int .i64 0]) (of_decide_eq_true (by kernel_rfl)) (by kernel_rfl) (by kernel_rfl) (by kernel_rfl) (by kernel_rfl) Tryz.underlying3
section
variable {H : Type} {enc : TypeId × Value → H} {w : World} {base : Nat} {spare : Nat → Bool} {held : Bool} {r : Reach} {b0 : Nat} {v : Value} {d : DataW H} {p : List MemPlace}
theorem law_all3 : AllInt enc Tryz.prog w base spare held 3 1 := allInt_int Tryz.underlying3 (by kernel_rfl)
theorem law_rows : ∀ gs : List (Nat → Int), (gs.map fun g => g 0).map (Value.int .i64) = gs.flatMap (rowC 1)
 | [] => rfl
 | g :: gs => by rw [List.map_cons, List.map_cons, List.flatMap_cons, law_rows gs]; rfl
theorem law_intsF {fuel : Nat} {c : Value} {y : DataW H × List MemPlace} (h : DataW.trod enc Tryz.prog w base spare held fuel 25 [c] = some y) : ∃ (A : Option Addr) (n cap : Nat) (l : List Int), c = .slice A n cap ∧ IA w A n cap l := by
 obtain ⟨A, n, cap, gs, e, h1, h2, h3⟩ := slice_ints_in (by decide) Tryz.underlying25 law_all3 h
 refine ⟨A, n, cap, gs.map fun g => g 0, e, h1, h2, ?_⟩
 have he : (gs.map fun g => g 0).map (Value.int .i64) = gs.flatMap (rowC 1) := law_rows gs
 rw [he]; exact h3
theorem law_ints (hv : Value.okWide Tryz.prog w r b0 25 v) (h : DataW.Trod enc Tryz.prog w base spare held 25 v d p) : ∃ (A : Option Addr) (n cap : Nat) (l : List Int), v = .slice A n cap ∧ IA w A n cap l := by
 obtain ⟨a, n, c, rfl⟩ := okWide_slice Tryz.underlying25 hv
 obtain ⟨fuel, hf⟩ := h
 exact law_intsF (by simpa [Value.cells] using hf)
theorem law_lineF {fuel : Nat} {cs : List Value} {y : DataW H × List MemPlace} (h : DataW.trod enc Tryz.prog w base spare held fuel 76 cs = some y) : ∃ l : VL, cs = l.cells ∧ l.ok w w.heap.size := by
 obtain ⟨y0, y1, m, _, hl, hy0, hy1⟩ := trod_struct2 Tryz.underlying76 h
 have hC : Tryz.prog.cellsOf 76 = 2 := by kernel_rfl
 rw [hC] at hl
 match cs, hl with
 | [a, b], _ =>
  have k0 : Tryz.prog.cellsOf 4 = 1 := by kernel_rfl
  have k1 : Tryz.prog.cellsOf 25 = 1 := by kernel_rfl
  simp only [List.drop_zero, List.drop_succ_cons, k0, k1] at hy0 hy1
  obtain ⟨bb, hb, _⟩ := DataW.trod_bool Tryz.underlying4 hy0
  obtain ⟨A, n, cap, l, e, hia⟩ := law_intsF hy1
  simp only [List.take_succ_cons, List.take_zero, List.cons.injEq, and_true] at hb
  exact ⟨⟨bb, A, n, cap, l⟩, by rw [hb, e]; rfl, hia.1, hia.2.1, hia.2.2⟩
theorem law_copyF {fuel : Nat} {c : Value} {y : DataW H × List MemPlace} (h : DataW.trod enc Tryz.prog w base spare held fuel 77 [c] = some y) : ∃ x : VC, c = x.val ∧ x.ok w w.heap.size := by
 have hC : Tryz.prog.cellsOf 76 = 2 := by kernel_rfl
 rcases open_slice Tryz.underlying77 h with ⟨hc, _⟩ | ⟨a, len, cap, m, n, D, Pl, hc, _, hl, hm, hmm, _, hx⟩
 ·obtain rfl : c = .slice none 0 0 := by simpa using hc
  exact ⟨⟨none, 0, 0, []⟩, rfl, Nat.le_refl _, Nat.zero_le _, fun l hl => (by cases hl), Rd.nil ..⟩
 ·obtain rfl : c = .slice (some a) len cap := by simpa using hc
  have hlm : len ≤ m := by rw [hmm]; split <;> omega
  have each : ∀ i, ∃ g : VL, i < len → g.ok w w.heap.size ∧ ∀ j u, j < 2 → g.cells[j]? = some u → w.cell? ((a.add (i * 2)).add j) = some u := by
   intro i
   by_cases hi : i < len
   ·obtain ⟨cs', h1, h2⟩ := hx i (by omega)
    rw [hC] at h1
    obtain ⟨_, hcl, hat⟩ := World.cells?_some h1
    obtain ⟨g, e, ho⟩ := law_lineF h2
    refine ⟨g, fun _ => ⟨ho, fun j u hj hu => ?_⟩⟩
    rw [hat j hj, e, hu]
   ·exact ⟨⟨false, none, 0, 0, []⟩, fun h => absurd h hi⟩
  obtain ⟨g, hg⟩ : ∃ g : Nat → VL, ∀ i, i < len → (g i).ok w w.heap.size ∧ ∀ j u, j < 2 → (g i).cells[j]? = some u → w.cell? ((a.add (i * 2)).add j) = some u :=
   ⟨fun i => Classical.choose (each i), fun i => Classical.choose_spec (each i)⟩
  refine ⟨⟨some a, len, cap, (List.range len).map g⟩, rfl, hl, hm, fun l hl => ?_, by rw [flat2_len]; simp, fun h0 => ?_⟩
  ·obtain ⟨i, hi, rfl⟩ := List.mem_map.1 hl
   exact (hg i (List.mem_range.1 hi)).1
  ·have g0 := (hg 0 h0).2 0 _ (by omega) rfl
   obtain ⟨b, off, spot⟩ := a
   have hspot : spot = none := by
    have := World.cell?_spot g0
    simp only [Nat.zero_mul, Addr.add] at this
    simpa using this
   subst hspot
   have hb : b < w.heap.size := by have := block_lt_of_cell g0; simpa [Addr.add] using this
   refine ⟨b, off, rfl, hb, fun q u hu => ?_⟩
   have hq : q < len * 2 := by
    rcases Nat.lt_or_ge q (len * 2) with h | h
    ·exact h
    ·rw [List.getElem?_eq_none (by rw [flat2_len]; simpa using h)] at hu; cases hu
   have hi : q / 2 < len := by omega
   have hj : q % 2 < 2 := Nat.mod_lt _ (by omega)
   have hqe : q = q / 2 * 2 + q % 2 := by omega
   rw [hqe, flat2 _ (q / 2) (q % 2) (by simpa using hi) hj] at hu
   simp only [List.getElem_map, List.getElem_range] at hu
   rw [← (hg (q / 2) hi).2 (q % 2) u hj hu]
   congr 1
   rw [add_of_add, ← hqe]
   unfold Addr.add
   by_cases h : q = 0 <;> simp [h]
theorem law_copiesF {fuel : Nat} {c : Value} {y : DataW H × List MemPlace} (h : DataW.trod enc Tryz.prog w base spare held fuel 22 [c] = some y) : ∃ (A : Option Addr) (n cap : Nat) (cs : List VC), c = .slice A n cap ∧ BkI w A n cap cs := by
 rcases open_slice1 Tryz.underlying22 (by kernel_rfl) h with ⟨hc, _⟩ | ⟨a, len, cap, m, n, V, D, Pl, hc, _, hl, hm, hmm, _, hx⟩
 ·obtain rfl : c = .slice none 0 0 := by simpa using hc
  exact ⟨none, 0, 0, [], rfl, Nat.le_refl _, Nat.zero_le _, Rd.nil .., fun r hr => (by cases hr)⟩
 ·obtain rfl : c = .slice (some a) len cap := by simpa using hc
  have hlm : len ≤ m := by rw [hmm]; split <;> omega
  have each : ∀ i, ∃ f : VC, i < len → w.cell? (a.add i) = some f.val ∧ f.ok w w.heap.size := by
   intro i
   by_cases hi : i < len
   ·obtain ⟨h1, h2⟩ := hx i (by omega)
    obtain ⟨x, e, ho⟩ := law_copyF h2
    exact ⟨x, fun _ => ⟨by rw [h1, e], ho⟩⟩
   ·exact ⟨⟨none, 0, 0, []⟩, fun h => absurd h hi⟩
  obtain ⟨g, hg⟩ : ∃ g : Nat → VC, ∀ i, i < len → w.cell? (a.add i) = some (g i).val ∧ (g i).ok w w.heap.size :=
   ⟨fun i => Classical.choose (each i), fun i => Classical.choose_spec (each i)⟩
  refine ⟨some a, len, cap, (List.range len).map g, rfl, hl, hm, ⟨by simp, fun h0 => ?_⟩, fun f hf => ?_⟩
  ·have g0 := (hg 0 h0).1
   obtain ⟨b, off, spot⟩ := a
   have hspot : spot = none := by simpa [Addr.add] using World.cell?_spot g0
   subst hspot
   refine ⟨b, off, rfl, block_lt_of_cell g0, fun i u hu => ?_⟩
   rw [List.getElem?_map, List.getElem?_map] at hu
   by_cases hi : i < len
   ·rw [List.getElem?_range hi] at hu
    have hu' : (g i).val = u := by simpa using hu
    rw [← hu']
    have hci := (hg i hi).1
    rcases i with _ | i <;> simpa [Addr.add] using hci
   ·rw [List.getElem?_eq_none (by simpa using hi)] at hu
    cases hu
  ·obtain ⟨i, hi, rfl⟩ := List.mem_map.1 hf
   exact (hg i (List.mem_range.1 hi)).2
theorem law_book (hv : Value.okWide Tryz.prog w r b0 24 v) (h : DataW.Trod enc Tryz.prog w base spare held 24 v d p) : ∃ (W : Int) (A : Option Addr) (n cap : Nat) (cs : List VC), v = .agg #[.int .i64 W, .slice A n cap] ∧ BkI w A n cap cs := by
 obtain ⟨cs, rfl, hsz⟩ := okWide_struct Tryz.underlying24 hv
 have hC : Tryz.prog.cellsOf 24 = 2 := by kernel_rfl
 rw [hC] at hsz
 obtain ⟨fuel, hfu⟩ := h
 obtain ⟨y0, y1, m, _, hl, hy0, hy1⟩ := trod_struct2 Tryz.underlying24 hfu
 obtain ⟨l⟩ := cs
 match l, hsz with
 | [a, b], _ =>
  have k0 : Tryz.prog.cellsOf 3 = 1 := by kernel_rfl
  have k1 : Tryz.prog.cellsOf 22 = 1 := by kernel_rfl
  simp only [Value.cells, List.drop_zero, List.drop_succ_cons, k0, k1, List.take_succ_cons, List.take_zero] at hy0 hy1
  obtain ⟨k, hk, _⟩ := DataW.trod_int Tryz.underlying3 hy0
  obtain ⟨A, n, cap, cs, e, hbk⟩ := law_copiesF hy1
  obtain rfl : a = .int .i64 k := by simpa using hk
  exact ⟨k, A, n, cap, cs, by rw [e], hbk⟩
end
end
end Go.Proofs.YtekmnelpkogppaaGreatDoor
