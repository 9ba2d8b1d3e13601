import Derived.Test.YtifddfchpknkbaaGreatDoorXh
import Derived.Test.YtifddfchpknkbaaGreatDoorVg
import Derived.Lib.ConvBytes
import Derived.Laws.IdiomStrings
set_option linter.unusedVariables false
set_option linter.unusedSimpArgs false
namespace Go.Proofs.YtifddfchpknkbaaGreatDoor
open Go.RowKit Go.Lib

theorem bytes_below (w : World) (e : TypeId) (s : ByteArray) : Below w.heap.size w (bytesWorld w e s) :=
  ⟨rfl, rfl, rfl, by rw [bytesWorld_size]; omega, fun k hk => bytesWorld_at_old w e s k hk⟩
theorem bytes_frozen (w : World) (e : TypeId) (s : ByteArray) (j : Nat) (hj : j < s.size) : (bytesWorld w e s).frozen? ⟨w.heap.size, j, none⟩ = false := by
  have h : s.size ≤ (bytesCells w e s).size := by simp [bytesCells]
  simp [World.frozen?, bytesWorld_at_new]
  omega
set_option maxRecDepth 100000 in
set_option maxHeartbeats 6400000 in
theorem spoilt_main (W H F L X Y : Int) (A : Option Addr) (n cap : Nat) (fs : List Fig) (m : Int) (w : World) (hE : Env m w) (hn : n ≤ maxLen) (hf : ∀ f ∈ fs, f.ok w w.heap.size) (hr : Rd w w.heap.size 1 A n (fs.map Fig.val)) (d : Nat) (hd : ¬ (d : Int) < 0) (hd2 : ¬ 9 < (d : Int)) (c : Nat) (hc9 : c ≤ 9) (hcd : c ≠ d) (i : Nat) (hfw : fewB fs = true) (hg : (stageB W H F L X Y && compB fs) = true) (T : ByteArray) (HPR : Hid (∀ wx, Env m wx → (∀ f ∈ fs, f.ok wx wx.heap.size) → Rd wx wx.heap.size 1 A n (fs.map Fig.val) → Calls Tryz.prog 83 #[.agg #[.int .i64 W, .int .i64 H, .int .i64 F, .int .i64 L, .int .i64 X, .int .i64 Y, .slice A n cap]] wx fun e w' => e = .returned (.tuple #[.string T, .int .i64 0]) ∧ Below wx.heap.size wx w')) (hi : ¬ (i : Int) < 0) (hi2 : ¬ (T.size : Int) ≤ i) (hik : i < T.size) (hb : (T[i]'hik).toNat = 48 + c) (HNO : Hid (∀ s : ByteArray, s.data.toList = T.data.toList.set i (UInt8.ofNat (48 + d)) → ∀ wx, Env m wx → Calls Tryz.prog 85 #[.string s] wx fun e w' => e = NONEB ∧ Below wx.heap.size wx w')) :
    Calls Tryz.prog 22 #[.agg #[.int .i64 W, .int .i64 H, .int .i64 F, .int .i64 L, .int .i64 X, .int .i64 Y, .slice A n cap], .int .i64 i, .int .i64 d] w fun e w' => e = .returned (.bool true) ∧ Below w.heap.size w w' := by
  have hS := Blk.new w 121 #[.int .i64 W, .int .i64 H, .int .i64 F, .int .i64 L, .int .i64 X, .int .i64 Y, .slice A n cap]
  have hB : Below w.heap.size w (w.alloc (.cells #[.int .i64 W, .int .i64 H, .int .i64 F, .int .i64 L, .int .i64 X, .int .i64 Y, .slice A n cap] 121)) := (Below.refl _ w).alloc (Nat.le_refl _) _
  have hE0 := hE.below hB
  have hc1 : ¬ (48 : Int) + (c : Int) < 48 := by omega
  have hc2 : ¬ (57 : Int) < (48 : Int) + (c : Int) := by omega
  have hw8 : IntKind.u8.wrap (c : Int) = c := by simp only [IntKind.wrap, IntKind.signed, IntKind.bits]; simp; omega
  have hw64 := i64_ok (c : Int) (by omega)
  have hw65 := i64_ok (48 + (d : Int)) (by omega)
  have hw9 : IntKind.u8.wrap (48 + (d : Int)) = 48 + (d : Int) := by simp only [IntKind.wrap, IntKind.signed, IntKind.bits]; simp; omega
  have hs0 : (48 : Int) + (c : Int) - 48 = c := by omega
  have hcd2 : ((c : Int) == d) = false := by rw [beq_eq_false_iff_ne]; omega
  have hcd3 : ¬ (c : Int) = d := by omega
  have hii : (i : Int) < T.size := by omega
  have h0i : (0 : Int) ≤ i := by omega
  have hcv : ∀ w : World, (convert 9 89 (.string T)).run Tryz.prog w = .ok (.slice (some ⟨w.heap.size, 0, none⟩) T.size (grownCap w T.size 0 5)) (bytesWorld w 5 T) := fun w => Lib.run_convert_string_bytes w 9 89 5 T Tryz.underlying9 Tryz.underlying89 Tryz.underlying5
  obtain ⟨l, hl⟩ : ∃ l, l = T.data.toList.set i (UInt8.ofNat (48 + d)) := ⟨_, rfl⟩
  have hll : l.length = T.size := by rw [hl, List.length_set, size_list]
  have hnone := HNO.out ⟨l.toArray⟩ (by rw [hl])
  go_enter Tryz.func22, Tryz.ntmps22
  go_upto_region 1 with (fail)
  generalize w.alloc (.cells #[.int .i64 W, .int .i64 H, .int .i64 F, .int .i64 L, .int .i64 X, .int .i64 Y, .slice A n cap] 121) = W0 at *
  have qS := fun i => Blk.cell hS i
  go_upto_region 8 with (first
    | (go_at_call 39; refine (few_any A n cap fs _ hn (fun f h => ((hf f h).below hB).more hB.size) (rdB hr hB)).mono ?_; rintro e w1 ⟨rfl, rfl⟩; rw [hfw])
    | (go_at_call 84; refine (refBook_any W H F L X Y A n cap fs _ hn (fun f h => ((hf f h).below hB).more hB.size) (rdB hr hB)).mono ?_; rintro e w1 ⟨rfl, hb⟩; rw [hg]; replace hS := hS.below hb hS.lt; replace hE0 := hE0.below hb; replace hB := hB.trans (hb.mono hB.size); clear qS hb; have qS := fun i => Blk.cell hS i)
    | (go_at_call 83; refine (HPR.out _ hE0 (fun f h => ((hf f h).below hB).more hB.size) (rdB hr hB)).mono ?_; rintro e w1 ⟨rfl, hb⟩; replace hS := hS.below hb hS.lt; replace hE0 := hE0.below hb; replace hB := hB.trans (hb.mono hB.size); clear qS hb; have qS := fun i => Blk.cell hS i))
  clear HPR hcd2
  rename World => W1
  go_upto_region 9 with (fail)
  have hbx := bytes_below W1 5 T
  have hcl : ∀ j, j < T.size → (bytesWorld W1 5 T).cell? ⟨W1.heap.size, j, none⟩ = some (.int .u8 (T.data.toList.getD j 0).toNat) := fun j hj => bytesWorld_cell W1 5 T j hj
  have hfz := bytes_frozen W1 5 T i hik
  have hlt : W1.heap.size < (bytesWorld W1 5 T).heap.size := by rw [bytesWorld_size]; omega
  obtain ⟨cp, hcp⟩ : ∃ cp, cp = grownCap W1 T.size 0 5 := ⟨_, rfl⟩
  rw [← hcp]
  clear hcp qS
  obtain ⟨g, hg9⟩ : ∃ g, g = W1.heap.size := ⟨_, rfl⟩
  have hBg : w.heap.size ≤ g := by rw [hg9]; exact hB.size
  have hE1 := hE0.below hbx
  replace hB := hB.trans (hbx.mono hB.size)
  rw [← hg9] at hcl hfz hlt ⊢
  clear hbx hg9 hS hE0
  generalize bytesWorld W1 5 T = W2 at *
  have hci := hcl i hik
  have hback : (convert 89 9 (.slice (some ⟨g, 0, none⟩) T.size cp)).run Tryz.prog (W2.setCell ⟨g, i, none⟩ (.int .u8 (48 + (d : Int)))) = .ok (.string ⟨l.toArray⟩) (W2.setCell ⟨g, i, none⟩ (.int .u8 (48 + (d : Int)))) := by
    rw [← hll]
    refine run_convert_bytes_back _ 89 9 5 ⟨g, 0, none⟩ cp l Tryz.underlying89 Tryz.underlying5 Tryz.underlying9 (fun j hj => ?_)
    have hadd : (Addr.add ⟨g, 0, none⟩ j) = ⟨g, j, none⟩ := by simp [Addr.add]; omega
    rw [hadd]
    have hjT : j < T.size := by omega
    by_cases hji : j = i
    · subst hji
      rw [World.cell?_setCell_same' _ _ _ (by rw [hci]; rfl)]
      congr 2
      have e : l[j] = UInt8.ofNat (48 + d) := by simp [hl]
      rw [e, UInt8.toNat_ofNat']
      omega
    · rw [World.cell?_setCell_other _ _ _ _ (fun e => hji (by simp at e <;> omega)), hcl j hjT]
      congr 2
      have e : l[j] = T.data.toList[j]'(by rw [size_list]; exact hjT) := by simp [hl, List.getElem_set_ne (fun h => hji h.symm)]
      rw [e, List.getD_eq_getElem?_getD, List.getElem?_eq_getElem (by rw [size_list]; exact hjT)]
      rfl
  have hE2 : Env m (W2.setCell ⟨g, i, none⟩ (.int .u8 (48 + (d : Int)))) := hE.below (hB.setCell (p := ⟨g, i, none⟩) hBg _)
  have hB2 := hB.setCell (p := ⟨g, i, none⟩) hBg (.int .u8 (48 + (d : Int)))
  clear hcl hl
  go_upto_region 10 with (fail)
  clear hB hci hfz
  generalize W2.setCell ⟨g, i, none⟩ (.int .u8 (48 + (d : Int))) = W3 at *
  go_upto_region 11 with (go_at_call 85; refine (hnone W3 hE2).mono ?_; rintro e w4 ⟨rfl, hb⟩; unfold NONEB; dsimp only; replace hB2 := hB2.trans (hb.mono hB2.size))
  have hX := Blk.new w4 121 #[.int .i64 0, .int .i64 0, .int .i64 0, .int .i64 0, .int .i64 0, .int .i64 0, .slice none 0 0]
  have hbx := (Below.refl w4.heap.size w4).alloc (Nat.le_refl _) (.cells #[.int .i64 0, .int .i64 0, .int .i64 0, .int .i64 0, .int .i64 0, .int .i64 0, .slice none 0 0] 121)
  replace hB2 := hB2.trans (hbx.mono hB2.size)
  clear hnone hcv hback
  obtain ⟨gX, hgX⟩ : ∃ g, g = w4.heap.size := ⟨_, rfl⟩
  rw [← hgX] at hX ⊢
  clear hbx hgX
  generalize w4.alloc (.cells #[.int .i64 0, .int .i64 0, .int .i64 0, .int .i64 0, .int .i64 0, .int .i64 0, .slice none 0 0] 121) = W5 at *
  have qX := fun i => Blk.cell hX i
  go_wp2_with (first
    | (go_at_call 87; refine (SameBooks_eq 0 0 0 0 0 0 none none 0 0 0 [] [] _ (Nat.zero_le _) (fun f h => by cases h) (fun f h => by cases h) rfl (Rd.nil ..) (Rd.nil ..)).mono ?_; rintro e w5 ⟨rfl, hb⟩; replace hB2 := hB2.trans (hb.mono hB2.size))
    | (go_at_call 24; refine (known_true m _ (known_at hE.1 hB2)).mono ?_; rintro e w6 ⟨rfl, hb⟩; replace hB2 := hB2.trans (hb.mono hB2.size)))
  go_ret
  exact ⟨rfl, hB2⟩
theorem spoilt_law (W H F L X Y i d : Int) (A : Option Addr) (n cap : Nat) (fs : List Fig) (m : Int) (w : World) (hE : Env m w) (hcap : n ≤ cap) (hcm : cap ≤ maxLen) (hf : ∀ f ∈ fs, f.ok w w.heap.size) (hr : Rd w w.heap.size 1 A n (fs.map Fig.val)) (hi1 : -9223372036854775808 ≤ i) (hi2 : i ≤ 9223372036854775807) :
    Calls Tryz.prog 22 #[.agg #[.int .i64 W, .int .i64 H, .int .i64 F, .int .i64 L, .int .i64 X, .int .i64 Y, .slice A n cap], .int .i64 i, .int .i64 d] w fun e w' => e = .returned (.bool true) ∧ Below w.heap.size w w' := by
  have hnm : n ≤ maxLen := Nat.le_trans hcap hcm
  cases hfw : fewB fs
  · exact spoilt_x1 W H F L X Y A n cap fs m w hE hnm hf hr i d hfw
  cases hg : (stageB W H F L X Y && compB fs)
  · exact spoilt_x2 W H F L X Y A n cap fs m w hE hnm hf hr i d hfw hg
  by_cases hd : d < 0
  · exact spoilt_x3 W H F L X Y A n cap fs m w hE hnm hf hr i d hfw hg hd
  by_cases hd2 : 9 < d
  · exact spoilt_x4 W H F L X Y A n cap fs m w hE hnm hf hr i d hfw hg hd hd2
  have hlen := hr.len
  have hg2 := hg
  rw [Bool.and_eq_true] at hg2
  obtain ⟨hst, hcb⟩ := hg2
  have hst2 := hst
  simp only [stageB, Bool.and_eq_true, inB_two] at hst2
  obtain ⟨a0, rfl⟩ : ∃ k : Nat, W = k := ⟨W.toNat, by omega⟩
  obtain ⟨a1, rfl⟩ : ∃ k : Nat, H = k := ⟨H.toNat, by omega⟩
  obtain ⟨a2, rfl⟩ : ∃ k : Nat, F = k := ⟨F.toNat, by omega⟩
  obtain ⟨a3, rfl⟩ : ∃ k : Nat, L = k := ⟨L.toNat, by omega⟩
  obtain ⟨a4, rfl⟩ : ∃ k : Nat, X = k := ⟨X.toNat, by omega⟩
  obtain ⟨a5, rfl⟩ : ∃ k : Nat, Y = k := ⟨Y.toNat, by omega⟩
  obtain ⟨d, rfl⟩ : ∃ k : Nat, d = k := ⟨d.toNat, by omega⟩
  obtain ⟨hn, ⟨hl1, hl6⟩, hls, hfl, hlines⟩ := lines_ok a0 a1 a2 a3 a4 a5 fs hst hcb
  have hLl : (linesL [a0, a1, a2, a3, a4, a5] fs).length = fs.length + 1 := by unfold linesL; rw [List.length_cons, List.length_map]
  obtain ⟨s, hsum⟩ := sum_nat (L := linesL [a0, a1, a2, a3, a4, a5] fs) (by omega) (fun l hl => (hlines l hl).2)
  have hPR := fun wx h1 h2 h3 => Print_good a0 a1 a2 a3 a4 a5 (fun a ha => by have := hn a ha; omega) A n cap fs s m wx h1 (by omega) h2 (fun f hf' => ⟨(hfl f hf').2.1.1, by have := (hfl f hf').2.1; omega, fun r hr' => by have := (hfl f hf').2.2 r hr'; omega⟩) h3 hsum hg
  have hNO := fun (i : Nat) (c d' : UInt8) hi hc hd hne s' hs' wx hx => spoilt_none (linesL [a0, a1, a2, a3, a4, a5] fs) s hsum (by omega) (by omega) hlines i c d' hi hc hd hne s' hs' m wx hx
  generalize textS (linesL [a0, a1, a2, a3, a4, a5] fs) s = T at *
  by_cases hi : i < 0
  · exact spoilt_c1 a0 a1 a2 a3 a4 a5 A n cap fs m w hE hnm hf hr d hd hd2 i hfw hg T (Lib.hid hPR) hi
  obtain ⟨i, rfl⟩ : ∃ k : Nat, i = k := ⟨i.toNat, by omega⟩
  by_cases hi3 : (T.size : Int) ≤ i
  · exact spoilt_c2 a0 a1 a2 a3 a4 a5 A n cap fs m w hE hnm hf hr d hd hd2 i hfw hg T (Lib.hid hPR) hi hi3
  have hik : i < T.size := by omega
  by_cases hc : ((T[i]'hik).toNat : Int) < 48
  · exact spoilt_c3 a0 a1 a2 a3 a4 a5 A n cap fs m w hE hnm hf hr d hd hd2 i hfw hg T (Lib.hid hPR) hi hi3 hik hc
  by_cases hc2 : (57 : Int) < (T[i]'hik).toNat
  · exact spoilt_c4 a0 a1 a2 a3 a4 a5 A n cap fs m w hE hnm hf hr d hd hd2 i hfw hg T (Lib.hid hPR) hi hi3 hik hc hc2
  obtain ⟨c, hb⟩ : ∃ c, (T[i]'hik).toNat = 48 + c := ⟨(T[i]'hik).toNat - 48, by omega⟩
  by_cases hcd : c = d
  · subst hcd
    exact spoilt_c5 a0 a1 a2 a3 a4 a5 A n cap fs m w hE hnm hf hr c hd hd2 i hfw hg T (Lib.hid hPR) hi hi3 hik hb
  refine spoilt_main a0 a1 a2 a3 a4 a5 A n cap fs m w hE hnm hf hr d hd hd2 c (by omega) hcd i hfw hg T (Lib.hid hPR) hi hi3 hik hb (Lib.hid fun s' hs' wx hx => ?_)
  have hdn : (UInt8.ofNat (48 + d)).toNat = 48 + d := by rw [UInt8.toNat_ofNat']; omega
  have hby : T.data.toList[i]? = some (T[i]'hik) := by
    rw [List.getElem?_eq_getElem (by rw [size_list]; exact hik)]
    congr 1
  refine hNO i _ (UInt8.ofNat (48 + d)) hby (by omega) (by omega) (fun e => ?_) s' hs' wx hx
  have := congrArg UInt8.toNat e
  omega
end Go.Proofs.YtifddfchpknkbaaGreatDoor
