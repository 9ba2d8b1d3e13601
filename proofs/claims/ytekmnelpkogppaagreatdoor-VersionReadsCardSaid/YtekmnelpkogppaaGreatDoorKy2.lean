import Derived.Test.YtekmnelpkogppaaGreatDoorProg
import Derived.Test.YtekmnelpkogppaaGreatDoorKy0
import Derived.Lib.Hide
import Derived.DeepKeys4
import Derived.Maps.OwnSet
set_option linter.unusedVariables false
set_option linter.unusedSimpArgs false
set_option maxRecDepth 100000
set_option maxHeartbeats 40000000
namespace Go.Proofs.YtekmnelpkogppaaGreatDoor
section
open Go.RowKit Go.Lib
def hd (s : ByteArray) : UInt8 := s.data.toList.headD 0
def tl (s : ByteArray) : ByteArray := s.extract 1 s.size
theorem hd_eq (s : ByteArray) (h : 0 < s.size) : s[0]'h = hd s := by
 obtain ⟨⟨l⟩⟩ := s
 cases l with
 | nil => exact absurd h (by simp [ByteArray.size])
 | cons x xs => rfl
theorem tl_list (s : ByteArray) : (tl s).data.toList = s.data.toList.drop 1 := by
 unfold tl
 rw [extract_list]
 rw [List.take_of_length_le]
 rw [List.length_drop]
 have : s.size = s.data.toList.length := rfl
 omega
theorem tl_size (s : ByteArray) : (tl s).size = s.size - 1 := by
 have := congrArg List.length (tl_list s)
 rw [List.length_drop] at this
 exact this
theorem sz_cons (s : ByteArray) (h : 0 < s.size) : s.data.toList = hd s :: (tl s).data.toList := by
 rw [tl_list]
 obtain ⟨⟨l⟩⟩ := s
 cases l with
 | nil => exact absurd h (by simp [ByteArray.size])
 | cons x xs => rfl
structure MV where
 kind : Int
 word : UInt8
 one : ByteArray
 other : ByteArray
def MV.cells (m : MV) : List Value := [.int .i64 m.kind, .int .i64 (m.word.toNat : Int), .string m.one, .string m.other]
def MV.val (m : MV) : Value := .agg #[.int .i64 m.kind, .int .i64 (m.word.toNat : Int), .string m.one, .string m.other]
def MV0 : Value := .agg #[.int .i64 0, .int .i64 0, .string ⟨#[]⟩, .string ⟨#[]⟩]
theorem moveTo_any (a b : ByteArray) (k : Int) (c : UInt8) (w : World) :
  Calls Tryz.prog 201 #[.agg #[.string a, .string b], .int .i64 k, .int .u8 (c.toNat : Int)] w fun e w' => e = .returned (.tuple #[MV.val ⟨k, c, a, b⟩, .bool true]) ∧ Below w.heap.size w w' := by
 have hub := c.toNat_lt
 have hwi : IntKind.i64.wrap (c.toNat : Int) = (c.toNat : Int) := IntWalk.i64_in _ (by omega)
 unfold MV.val
 go_enter Tryz.func201, Tryz.ntmps201
 go_wp2_with fail
 exact bodyPost_ret (v := .tuple #[.agg #[.int .i64 k, .int .i64 (c.toNat : Int), .string a, .string b], .bool true]) (by simp [results, Tryz.results201, go_sem]) rfl ⟨rfl, ((Below.refl _ w).alloc (Nat.le_refl _) _).alloc (by simp only [World.size_alloc]; omega) _⟩
theorem ne_empty {a : ByteArray} (h : 0 < a.size) : a.toList ≠ [] := fun e => by
 rw [ByteArray.toList_eq] at e
 have h2 : a.size = a.data.toList.length := rfl
 rw [e, List.length_nil] at h2
 omega
theorem size0 {a : ByteArray} (h : ¬ 0 < a.size) : a = ⟨#[]⟩ := by
 apply ByteArray.ext
 apply Array.toList_inj.1
 have : a.size = a.data.toList.length := rfl
 exact List.length_eq_zero_iff.1 (by omega)
theorem keep_a (a b : ByteArray) (w : World) (ha : ¬ 0 < a.size) :
  Calls Tryz.prog 171 #[.agg #[.string a, .string b]] w fun e w' => e = .returned (.tuple #[MV0, .bool false]) ∧ Below w.heap.size w w' := by
 unfold MV0
 have hA : Blk ((w.alloc (.cells #[.string a, .string b] 124)).alloc (.cells #[.int .i64 0, .int .i64 0, .string ⟨#[]⟩, .string ⟨#[]⟩] 184)) w.heap.size 124 #[.string a, .string b] := (Blk.new w 124 #[.string a, .string b]).alloc _
 have hM : Blk ((w.alloc (.cells #[.string a, .string b] 124)).alloc (.cells #[.int .i64 0, .int .i64 0, .string ⟨#[]⟩, .string ⟨#[]⟩] 184)) (w.heap.size + 1) 184 #[.int .i64 0, .int .i64 0, .string ⟨#[]⟩, .string ⟨#[]⟩] := blk2 w _ 184 #[.int .i64 0, .int .i64 0, .string ⟨#[]⟩, .string ⟨#[]⟩]
 have hB : Below w.heap.size w ((w.alloc (.cells #[.string a, .string b] 124)).alloc (.cells #[.int .i64 0, .int .i64 0, .string ⟨#[]⟩, .string ⟨#[]⟩] 184)) := ((Below.refl _ w).alloc (Nat.le_refl _) _).alloc (by simp only [World.size_alloc]; omega) _
 obtain rfl := size0 ha
 go_enter Tryz.func171, Tryz.ntmps171
 go_upto_region 1 with fail
 generalize (w.alloc (.cells #[.string ⟨#[]⟩, .string b] 124)).alloc (.cells #[.int .i64 0, .int .i64 0, .string ⟨#[]⟩, .string ⟨#[]⟩] 184) = W0 at *
 have hbx := fun p i => blw_blk hA p i
 refine wp_region_blw (by kernel_rfl) (by kernel_rfl) ?_
 repeat (go_big_quiet_step (fail))
 refine wpQuiet_nil ?_
 rintro W3 ⟨⟨_, hb3⟩, rfl⟩
 clear hbx
 replace hA := hA.below hb3 hA.lt; replace hM := hM.below hb3 hM.lt; replace hB := hB.trans (hb3.mono hB.size); clear hb3
 have hqM := fun i => hM.cell i; have hfM := fun i => hM.frozen i; have hlM := hM.lt
 go_wp2_with fail
 clear hqM hfM hlM
 replace hM := hM.set_ 0 (.int .i64 0); replace hB := hB.setCell (p := ⟨w.heap.size + 1, 0, none⟩) (Nat.le_succ _) (.int .i64 0)
 replace hM := hM.set_ 1 (.int .i64 0); replace hB := hB.setCell (p := ⟨w.heap.size + 1, 1, none⟩) (Nat.le_succ _) (.int .i64 0)
 replace hM := hM.set_ 2 (.string ⟨#[]⟩); replace hB := hB.setCell (p := ⟨w.heap.size + 1, 2, none⟩) (Nat.le_succ _) (.string ⟨#[]⟩)
 replace hM := hM.set_ 3 (.string ⟨#[]⟩); replace hB := hB.setCell (p := ⟨w.heap.size + 1, 3, none⟩) (Nat.le_succ _) (.string ⟨#[]⟩)
 replace hM : Blk (((((W3).setCell ⟨w.heap.size + 1, 0, none⟩ (.int .i64 0)).setCell ⟨w.heap.size + 1, 1, none⟩ (.int .i64 0)).setCell ⟨w.heap.size + 1, 2, none⟩ (.string ⟨#[]⟩)).setCell ⟨w.heap.size + 1, 3, none⟩ (.string ⟨#[]⟩)) (w.heap.size + 1) 184 #[.int .i64 0, .int .i64 0, .string ⟨#[]⟩, .string ⟨#[]⟩] := hM
 generalize ((((W3).setCell ⟨w.heap.size + 1, 0, none⟩ (.int .i64 0)).setCell ⟨w.heap.size + 1, 1, none⟩ (.int .i64 0)).setCell ⟨w.heap.size + 1, 2, none⟩ (.string ⟨#[]⟩)).setCell ⟨w.heap.size + 1, 3, none⟩ (.string ⟨#[]⟩) = w9 at *
 have hq9 := fun i => hM.cell i
 refine bodyPost_ret (v := .tuple #[.agg #[.int .i64 0, .int .i64 0, .string ⟨#[]⟩, .string ⟨#[]⟩], .bool false]) ?_ rfl ⟨rfl, hB⟩
 simp [results, Tryz.results171, go_sem, hq9]
theorem keep_b (a b : ByteArray) (w : World) (ha : 0 < a.size) (hb : ¬ 0 < b.size) :
  Calls Tryz.prog 171 #[.agg #[.string a, .string b]] w fun e w' => e = .returned (.tuple #[MV0, .bool false]) ∧ Below w.heap.size w w' := by
 unfold MV0
 have hA : Blk ((w.alloc (.cells #[.string a, .string b] 124)).alloc (.cells #[.int .i64 0, .int .i64 0, .string ⟨#[]⟩, .string ⟨#[]⟩] 184)) w.heap.size 124 #[.string a, .string b] := (Blk.new w 124 #[.string a, .string b]).alloc _
 have hM : Blk ((w.alloc (.cells #[.string a, .string b] 124)).alloc (.cells #[.int .i64 0, .int .i64 0, .string ⟨#[]⟩, .string ⟨#[]⟩] 184)) (w.heap.size + 1) 184 #[.int .i64 0, .int .i64 0, .string ⟨#[]⟩, .string ⟨#[]⟩] := blk2 w _ 184 #[.int .i64 0, .int .i64 0, .string ⟨#[]⟩, .string ⟨#[]⟩]
 have hB : Below w.heap.size w ((w.alloc (.cells #[.string a, .string b] 124)).alloc (.cells #[.int .i64 0, .int .i64 0, .string ⟨#[]⟩, .string ⟨#[]⟩] 184)) := ((Below.refl _ w).alloc (Nat.le_refl _) _).alloc (by simp only [World.size_alloc]; omega) _
 obtain rfl := size0 hb
 have al := ne_empty ha
 have ae : a.toList.isEmpty = false := by rw [List.isEmpty_eq_false_iff]; exact al
 have ab : (a.toList == []) = false := by rw [beq_eq_false_iff_ne]; exact al
 go_enter Tryz.func171, Tryz.ntmps171
 go_upto_region 1 with fail
 generalize (w.alloc (.cells #[.string a, .string ⟨#[]⟩] 124)).alloc (.cells #[.int .i64 0, .int .i64 0, .string ⟨#[]⟩, .string ⟨#[]⟩] 184) = W0 at *
 have hbx := fun p i => blw_blk hA p i
 refine wp_region_blw (by kernel_rfl) (by kernel_rfl) ?_
 repeat (go_big_quiet_step (fail))
 refine wpQuiet_nil ?_
 rintro W3 ⟨⟨_, hb3⟩, rfl⟩
 clear hbx
 replace hA := hA.below hb3 hA.lt; replace hM := hM.below hb3 hM.lt; replace hB := hB.trans (hb3.mono hB.size); clear hb3
 have hqM := fun i => hM.cell i; have hfM := fun i => hM.frozen i; have hlM := hM.lt
 go_wp2_with fail
 clear hqM hfM hlM
 replace hM := hM.set_ 0 (.int .i64 0); replace hB := hB.setCell (p := ⟨w.heap.size + 1, 0, none⟩) (Nat.le_succ _) (.int .i64 0)
 replace hM := hM.set_ 1 (.int .i64 0); replace hB := hB.setCell (p := ⟨w.heap.size + 1, 1, none⟩) (Nat.le_succ _) (.int .i64 0)
 replace hM := hM.set_ 2 (.string ⟨#[]⟩); replace hB := hB.setCell (p := ⟨w.heap.size + 1, 2, none⟩) (Nat.le_succ _) (.string ⟨#[]⟩)
 replace hM := hM.set_ 3 (.string ⟨#[]⟩); replace hB := hB.setCell (p := ⟨w.heap.size + 1, 3, none⟩) (Nat.le_succ _) (.string ⟨#[]⟩)
 replace hM : Blk (((((W3).setCell ⟨w.heap.size + 1, 0, none⟩ (.int .i64 0)).setCell ⟨w.heap.size + 1, 1, none⟩ (.int .i64 0)).setCell ⟨w.heap.size + 1, 2, none⟩ (.string ⟨#[]⟩)).setCell ⟨w.heap.size + 1, 3, none⟩ (.string ⟨#[]⟩)) (w.heap.size + 1) 184 #[.int .i64 0, .int .i64 0, .string ⟨#[]⟩, .string ⟨#[]⟩] := hM
 generalize ((((W3).setCell ⟨w.heap.size + 1, 0, none⟩ (.int .i64 0)).setCell ⟨w.heap.size + 1, 1, none⟩ (.int .i64 0)).setCell ⟨w.heap.size + 1, 2, none⟩ (.string ⟨#[]⟩)).setCell ⟨w.heap.size + 1, 3, none⟩ (.string ⟨#[]⟩) = w9 at *
 have hq9 := fun i => hM.cell i
 refine bodyPost_ret (v := .tuple #[.agg #[.int .i64 0, .int .i64 0, .string ⟨#[]⟩, .string ⟨#[]⟩], .bool false]) ?_ rfl ⟨rfl, hB⟩
 simp [results, Tryz.results171, go_sem, hq9]
theorem keep_h (a b : ByteArray) (w : World) (ha : 0 < a.size) (hb : 0 < b.size) (hh : ¬ hd a = hd b) :
  Calls Tryz.prog 171 #[.agg #[.string a, .string b]] w fun e w' => e = .returned (.tuple #[MV0, .bool false]) ∧ Below w.heap.size w w' := by
 unfold MV0
 have hA : Blk ((w.alloc (.cells #[.string a, .string b] 124)).alloc (.cells #[.int .i64 0, .int .i64 0, .string ⟨#[]⟩, .string ⟨#[]⟩] 184)) w.heap.size 124 #[.string a, .string b] := (Blk.new w 124 #[.string a, .string b]).alloc _
 have hM : Blk ((w.alloc (.cells #[.string a, .string b] 124)).alloc (.cells #[.int .i64 0, .int .i64 0, .string ⟨#[]⟩, .string ⟨#[]⟩] 184)) (w.heap.size + 1) 184 #[.int .i64 0, .int .i64 0, .string ⟨#[]⟩, .string ⟨#[]⟩] := blk2 w _ 184 #[.int .i64 0, .int .i64 0, .string ⟨#[]⟩, .string ⟨#[]⟩]
 have hB : Below w.heap.size w ((w.alloc (.cells #[.string a, .string b] 124)).alloc (.cells #[.int .i64 0, .int .i64 0, .string ⟨#[]⟩, .string ⟨#[]⟩] 184)) := ((Below.refl _ w).alloc (Nat.le_refl _) _).alloc (by simp only [World.size_alloc]; omega) _
 have al := ne_empty ha
 have ae : a.toList.isEmpty = false := by rw [List.isEmpty_eq_false_iff]; exact al
 have ab : (a.toList == []) = false := by rw [beq_eq_false_iff_ne]; exact al
 have bl := ne_empty hb
 have be : b.toList.isEmpty = false := by rw [List.isEmpty_eq_false_iff]; exact bl
 have bb : (b.toList == []) = false := by rw [beq_eq_false_iff_ne]; exact bl
 have ai : (0 : Int) < a.size := by omega
 have a1 : (1 : Int) ≤ a.size := by omega
 have a0 := hd_eq a ha
 have bi : (0 : Int) < b.size := by omega
 have b1 : (1 : Int) ≤ b.size := by omega
 have b0 := hd_eq b hb
 have hn : ((hd a).toNat : Int) ≠ ((hd b).toNat : Int) := fun e => hh (UInt8.toNat_inj.1 (by omega))
 have he1 : (((hd a).toNat : Int) == ((hd b).toNat : Int)) = false := by rw [beq_eq_false_iff_ne]; exact hn
 have he2 : (((hd a).toNat : Int) != ((hd b).toNat : Int)) = true := by rw [bne_iff_ne]; exact hn
 clear hn hh
 go_enter Tryz.func171, Tryz.ntmps171
 go_upto_region 1 with fail
 generalize (w.alloc (.cells #[.string a, .string b] 124)).alloc (.cells #[.int .i64 0, .int .i64 0, .string ⟨#[]⟩, .string ⟨#[]⟩] 184) = W0 at *
 have hbx := fun p i => blw_blk hA p i
 refine wp_region_blw (by kernel_rfl) (by kernel_rfl) ?_
 repeat (go_big_quiet_step (fail))
 refine wpQuiet_nil ?_
 rintro W3 ⟨⟨_, hb3⟩, rfl⟩
 clear hbx
 replace hA := hA.below hb3 hA.lt; replace hM := hM.below hb3 hM.lt; replace hB := hB.trans (hb3.mono hB.size); clear hb3
 have hqM := fun i => hM.cell i; have hfM := fun i => hM.frozen i; have hlM := hM.lt
 go_wp2_with fail
 clear hqM hfM hlM
 replace hM := hM.set_ 0 (.int .i64 0); replace hB := hB.setCell (p := ⟨w.heap.size + 1, 0, none⟩) (Nat.le_succ _) (.int .i64 0)
 replace hM := hM.set_ 1 (.int .i64 0); replace hB := hB.setCell (p := ⟨w.heap.size + 1, 1, none⟩) (Nat.le_succ _) (.int .i64 0)
 replace hM := hM.set_ 2 (.string ⟨#[]⟩); replace hB := hB.setCell (p := ⟨w.heap.size + 1, 2, none⟩) (Nat.le_succ _) (.string ⟨#[]⟩)
 replace hM := hM.set_ 3 (.string ⟨#[]⟩); replace hB := hB.setCell (p := ⟨w.heap.size + 1, 3, none⟩) (Nat.le_succ _) (.string ⟨#[]⟩)
 replace hM : Blk (((((W3).setCell ⟨w.heap.size + 1, 0, none⟩ (.int .i64 0)).setCell ⟨w.heap.size + 1, 1, none⟩ (.int .i64 0)).setCell ⟨w.heap.size + 1, 2, none⟩ (.string ⟨#[]⟩)).setCell ⟨w.heap.size + 1, 3, none⟩ (.string ⟨#[]⟩)) (w.heap.size + 1) 184 #[.int .i64 0, .int .i64 0, .string ⟨#[]⟩, .string ⟨#[]⟩] := hM
 generalize ((((W3).setCell ⟨w.heap.size + 1, 0, none⟩ (.int .i64 0)).setCell ⟨w.heap.size + 1, 1, none⟩ (.int .i64 0)).setCell ⟨w.heap.size + 1, 2, none⟩ (.string ⟨#[]⟩)).setCell ⟨w.heap.size + 1, 3, none⟩ (.string ⟨#[]⟩) = w9 at *
 have hq9 := fun i => hM.cell i
 refine bodyPost_ret (v := .tuple #[.agg #[.int .i64 0, .int .i64 0, .string ⟨#[]⟩, .string ⟨#[]⟩], .bool false]) ?_ rfl ⟨rfl, hB⟩
 simp [results, Tryz.results171, go_sem, hq9]
theorem keep_y (a b : ByteArray) (w : World) (ha : 0 < a.size) (hb : 0 < b.size) (hh : hd a = hd b) :
  Calls Tryz.prog 171 #[.agg #[.string a, .string b]] w fun e w' => e = .returned (.tuple #[MV.val ⟨1, hd a, tl a, tl b⟩, .bool true]) ∧ Below w.heap.size w w' := by
 unfold MV.val
 have hA : Blk ((w.alloc (.cells #[.string a, .string b] 124)).alloc (.cells #[.int .i64 0, .int .i64 0, .string ⟨#[]⟩, .string ⟨#[]⟩] 184)) w.heap.size 124 #[.string a, .string b] := (Blk.new w 124 #[.string a, .string b]).alloc _
 have hM : Blk ((w.alloc (.cells #[.string a, .string b] 124)).alloc (.cells #[.int .i64 0, .int .i64 0, .string ⟨#[]⟩, .string ⟨#[]⟩] 184)) (w.heap.size + 1) 184 #[.int .i64 0, .int .i64 0, .string ⟨#[]⟩, .string ⟨#[]⟩] := blk2 w _ 184 #[.int .i64 0, .int .i64 0, .string ⟨#[]⟩, .string ⟨#[]⟩]
 have hB : Below w.heap.size w ((w.alloc (.cells #[.string a, .string b] 124)).alloc (.cells #[.int .i64 0, .int .i64 0, .string ⟨#[]⟩, .string ⟨#[]⟩] 184)) := ((Below.refl _ w).alloc (Nat.le_refl _) _).alloc (by simp only [World.size_alloc]; omega) _
 have al := ne_empty ha
 have ae : a.toList.isEmpty = false := by rw [List.isEmpty_eq_false_iff]; exact al
 have ab : (a.toList == []) = false := by rw [beq_eq_false_iff_ne]; exact al
 have bl := ne_empty hb
 have be : b.toList.isEmpty = false := by rw [List.isEmpty_eq_false_iff]; exact bl
 have bb : (b.toList == []) = false := by rw [beq_eq_false_iff_ne]; exact bl
 have ai : (0 : Int) < a.size := by omega
 have a1 : (1 : Int) ≤ a.size := by omega
 have a0 := hd_eq a ha
 have bi : (0 : Int) < b.size := by omega
 have b1 : (1 : Int) ≤ b.size := by omega
 have b0 := hd_eq b hb
 have he1 : (((hd a).toNat : Int) == ((hd b).toNat : Int)) = true := by rw [hh]; simp
 have he2 : (((hd a).toNat : Int) != ((hd b).toNat : Int)) = false := by rw [hh]; simp
 clear hh
 go_enter Tryz.func171, Tryz.ntmps171
 go_upto_region 1 with fail
 generalize (w.alloc (.cells #[.string a, .string b] 124)).alloc (.cells #[.int .i64 0, .int .i64 0, .string ⟨#[]⟩, .string ⟨#[]⟩] 184) = W0 at *
 have hbx := fun p i => blw_blk hA p i
 refine wp_region_blw (by kernel_rfl) (by kernel_rfl) ?_
 repeat (go_big_quiet_step (fail))
 refine wpQuiet_nil ?_
 rintro W3 ⟨⟨_, hb3⟩, rfl⟩
 clear hbx
 replace hA := hA.below hb3 hA.lt; replace hM := hM.below hb3 hM.lt; replace hB := hB.trans (hb3.mono hB.size); clear hb3
 go_upto_region 3 with fail
 rename World => WR
 refine wp_region_G (fun w' => Blk w' w.heap.size 124 #[.string a, .string b]) 14 (by kernel_rfl) ?_
 replace hA := hA.drew; replace hM := hM.drew; replace hB := hB.drew
 generalize WR.drew = WD at *
 have hTT : Blk WD w.heap.size 124 #[.string a, .string b] := hA
 refine tk 0 (v := ?_) rfl (Or.inl ⟨by rfl, ?h⟩) hTT ?_
 case h => intro wq hSw; have hqA := fun i => hSw.cell i; have ta : a.extract 1 a.size = tl a := rfl; have tb : b.extract 1 b.size = tl b := rfl; go_simp <;> with_reducible rfl
 simp only [LS, Act.put]
 refine tk 1 (v := ?_) rfl (Or.inl ⟨by rfl, ?h⟩) hTT ?_
 case h => intro wq hSw; have hqA := fun i => hSw.cell i; have ta : a.extract 1 a.size = tl a := rfl; have tb : b.extract 1 b.size = tl b := rfl; go_simp <;> with_reducible rfl
 simp only [LS, Act.put]
 refine tk 2 (v := ?_) rfl (Or.inl ⟨by rfl, ?h⟩) hTT ?_
 case h => intro wq hSw; have hqA := fun i => hSw.cell i; have ta : a.extract 1 a.size = tl a := rfl; have tb : b.extract 1 b.size = tl b := rfl; go_simp <;> with_reducible rfl
 simp only [LS, Act.put]
 refine tk 3 (v := ?_) rfl (Or.inl ⟨by rfl, ?h⟩) hTT ?_
 case h => intro wq hSw; have hqA := fun i => hSw.cell i; have ta : a.extract 1 a.size = tl a := rfl; have tb : b.extract 1 b.size = tl b := rfl; go_simp <;> with_reducible rfl
 simp only [LS, Act.put]
 refine tk 4 (v := ?_) rfl (Or.inl ⟨by rfl, ?h⟩) hTT ?_
 case h => intro wq hSw; have hqA := fun i => hSw.cell i; have ta : a.extract 1 a.size = tl a := rfl; have tb : b.extract 1 b.size = tl b := rfl; go_simp <;> with_reducible rfl
 simp only [LS, Act.put]
 refine tk 5 (v := ?_) rfl (Or.inl ⟨by rfl, ?h⟩) hTT ?_
 case h => intro wq hSw; have hqA := fun i => hSw.cell i; have ta : a.extract 1 a.size = tl a := rfl; have tb : b.extract 1 b.size = tl b := rfl; go_simp <;> with_reducible rfl
 simp only [LS, Act.put]
 refine tk 6 (v := ?_) rfl (Or.inl ⟨by rfl, ?h⟩) hTT ?_
 case h => intro wq hSw; have hqA := fun i => hSw.cell i; have ta : a.extract 1 a.size = tl a := rfl; have tb : b.extract 1 b.size = tl b := rfl; go_simp <;> with_reducible rfl
 simp only [LS, Act.put]
 refine tk 7 (v := ?_) rfl (Or.inl ⟨by rfl, ?h⟩) hTT ?_
 case h => intro wq hSw; have hqA := fun i => hSw.cell i; have ta : a.extract 1 a.size = tl a := rfl; have tb : b.extract 1 b.size = tl b := rfl; go_simp <;> with_reducible rfl
 simp only [LS, Act.put]
 refine tk 8 (v := ?_) rfl (Or.inl ⟨by rfl, ?h⟩) hTT ?_
 case h => intro wq hSw; have hqA := fun i => hSw.cell i; have ta : a.extract 1 a.size = tl a := rfl; have tb : b.extract 1 b.size = tl b := rfl; go_simp <;> with_reducible rfl
 simp only [LS, Act.put]
 refine tk 9 (v := ?_) rfl (Or.inl ⟨by rfl, ?h⟩) hTT ?_
 case h => intro wq hSw; have hqA := fun i => hSw.cell i; have ta : a.extract 1 a.size = tl a := rfl; have tb : b.extract 1 b.size = tl b := rfl; go_simp <;> with_reducible rfl
 simp only [LS, Act.put]
 refine o1 10 rfl fun K hK => ?_
 go_simp
 refine (moveTo_any (tl a) (tl b) 1 (hd a) _).mono ?_
 rintro e w1 ⟨rfl, hb⟩
 replace hA := hA.below hb hA.lt; replace hM := hM.below hb hM.lt; replace hB := hB.trans (hb.mono hB.size); clear hb; clear hTT; have hTT := hA
 dsimp only [MV.val]
 refine hK _ _ (.inr hTT) ?_
 clear hK K
 try simp only [LS, Act.put]
 refine tk 11 (v := ?_) rfl (Or.inl ⟨by rfl, ?h⟩) hTT ?_
 case h => intro wq hSw; have hqA := fun i => hSw.cell i; have ta : a.extract 1 a.size = tl a := rfl; have tb : b.extract 1 b.size = tl b := rfl; go_simp <;> with_reducible rfl
 simp only [LS, Act.put]
 refine tk 12 (v := ?_) rfl (Or.inl ⟨by rfl, ?h⟩) hTT ?_
 case h => intro wq hSw; have hqA := fun i => hSw.cell i; have ta : a.extract 1 a.size = tl a := rfl; have tb : b.extract 1 b.size = tl b := rfl; go_simp <;> with_reducible rfl
 simp only [LS, Act.put]
 refine o1 13 rfl fun K hK => ?_
 have hqM := fun i => hM.cell i; have hfM := fun i => hM.frozen i; have hlM := hM.lt
 go_simp
 clear hqM hfM hlM
 replace hM := hM.set_ 0 (.int .i64 1); replace hA := hA.far (p := ⟨w.heap.size + 1, 0, none⟩) (show w.heap.size ≠ w.heap.size + 1 by omega) (.int .i64 1); replace hB := hB.setCell (p := ⟨w.heap.size + 1, 0, none⟩) (Nat.le_succ _) (.int .i64 1)
 replace hM := hM.set_ 1 (.int .i64 ((hd a).toNat : Int)); replace hA := hA.far (p := ⟨w.heap.size + 1, 1, none⟩) (show w.heap.size ≠ w.heap.size + 1 by omega) (.int .i64 ((hd a).toNat : Int)); replace hB := hB.setCell (p := ⟨w.heap.size + 1, 1, none⟩) (Nat.le_succ _) (.int .i64 ((hd a).toNat : Int))
 replace hM := hM.set_ 2 (.string (tl a)); replace hA := hA.far (p := ⟨w.heap.size + 1, 2, none⟩) (show w.heap.size ≠ w.heap.size + 1 by omega) (.string (tl a)); replace hB := hB.setCell (p := ⟨w.heap.size + 1, 2, none⟩) (Nat.le_succ _) (.string (tl a))
 replace hM := hM.set_ 3 (.string (tl b)); replace hA := hA.far (p := ⟨w.heap.size + 1, 3, none⟩) (show w.heap.size ≠ w.heap.size + 1 by omega) (.string (tl b)); replace hB := hB.setCell (p := ⟨w.heap.size + 1, 3, none⟩) (Nat.le_succ _) (.string (tl b))
 clear hTT; have hTT := hA
 refine hK _ _ (.inr hTT) ?_
 clear hK K
 try simp only [LS, Act.put]
 refine o1 14 rfl fun K hK => ?_
 go_simp
 refine hK _ _ (.inl rfl) ?_
 clear hK K
 try simp only [LS, Act.put]
 refine wpG_done (by kernel_rfl) ?_ _
 clear hTT
 go_wp2_with fail
 have hq9 := fun i => hM.cell i
 refine bodyPost_ret (v := .tuple #[.agg #[.int .i64 1, .int .i64 ((hd a).toNat : Int), .string (tl a), .string (tl b)], .bool true]) ?_ rfl ⟨rfl, hB⟩
 simp [results, Tryz.results171, go_sem, hq9]
theorem change_a (a b : ByteArray) (w : World) (ha : ¬ 0 < a.size) :
  Calls Tryz.prog 172 #[.agg #[.string a, .string b]] w fun e w' => e = .returned (.tuple #[MV0, .bool false]) ∧ Below w.heap.size w w' := by
 unfold MV0
 have hA : Blk ((w.alloc (.cells #[.string a, .string b] 124)).alloc (.cells #[.int .i64 0, .int .i64 0, .string ⟨#[]⟩, .string ⟨#[]⟩] 184)) w.heap.size 124 #[.string a, .string b] := (Blk.new w 124 #[.string a, .string b]).alloc _
 have hM : Blk ((w.alloc (.cells #[.string a, .string b] 124)).alloc (.cells #[.int .i64 0, .int .i64 0, .string ⟨#[]⟩, .string ⟨#[]⟩] 184)) (w.heap.size + 1) 184 #[.int .i64 0, .int .i64 0, .string ⟨#[]⟩, .string ⟨#[]⟩] := blk2 w _ 184 #[.int .i64 0, .int .i64 0, .string ⟨#[]⟩, .string ⟨#[]⟩]
 have hB : Below w.heap.size w ((w.alloc (.cells #[.string a, .string b] 124)).alloc (.cells #[.int .i64 0, .int .i64 0, .string ⟨#[]⟩, .string ⟨#[]⟩] 184)) := ((Below.refl _ w).alloc (Nat.le_refl _) _).alloc (by simp only [World.size_alloc]; omega) _
 obtain rfl := size0 ha
 go_enter Tryz.func172, Tryz.ntmps172
 go_upto_region 1 with fail
 generalize (w.alloc (.cells #[.string ⟨#[]⟩, .string b] 124)).alloc (.cells #[.int .i64 0, .int .i64 0, .string ⟨#[]⟩, .string ⟨#[]⟩] 184) = W0 at *
 have hbx := fun p i => blw_blk hA p i
 refine wp_region_blw (by kernel_rfl) (by kernel_rfl) ?_
 repeat (go_big_quiet_step (fail))
 refine wpQuiet_nil ?_
 rintro W3 ⟨⟨_, hb3⟩, rfl⟩
 clear hbx
 replace hA := hA.below hb3 hA.lt; replace hM := hM.below hb3 hM.lt; replace hB := hB.trans (hb3.mono hB.size); clear hb3
 have hqM := fun i => hM.cell i; have hfM := fun i => hM.frozen i; have hlM := hM.lt
 go_wp2_with fail
 clear hqM hfM hlM
 replace hM := hM.set_ 0 (.int .i64 0); replace hB := hB.setCell (p := ⟨w.heap.size + 1, 0, none⟩) (Nat.le_succ _) (.int .i64 0)
 replace hM := hM.set_ 1 (.int .i64 0); replace hB := hB.setCell (p := ⟨w.heap.size + 1, 1, none⟩) (Nat.le_succ _) (.int .i64 0)
 replace hM := hM.set_ 2 (.string ⟨#[]⟩); replace hB := hB.setCell (p := ⟨w.heap.size + 1, 2, none⟩) (Nat.le_succ _) (.string ⟨#[]⟩)
 replace hM := hM.set_ 3 (.string ⟨#[]⟩); replace hB := hB.setCell (p := ⟨w.heap.size + 1, 3, none⟩) (Nat.le_succ _) (.string ⟨#[]⟩)
 replace hM : Blk (((((W3).setCell ⟨w.heap.size + 1, 0, none⟩ (.int .i64 0)).setCell ⟨w.heap.size + 1, 1, none⟩ (.int .i64 0)).setCell ⟨w.heap.size + 1, 2, none⟩ (.string ⟨#[]⟩)).setCell ⟨w.heap.size + 1, 3, none⟩ (.string ⟨#[]⟩)) (w.heap.size + 1) 184 #[.int .i64 0, .int .i64 0, .string ⟨#[]⟩, .string ⟨#[]⟩] := hM
 generalize ((((W3).setCell ⟨w.heap.size + 1, 0, none⟩ (.int .i64 0)).setCell ⟨w.heap.size + 1, 1, none⟩ (.int .i64 0)).setCell ⟨w.heap.size + 1, 2, none⟩ (.string ⟨#[]⟩)).setCell ⟨w.heap.size + 1, 3, none⟩ (.string ⟨#[]⟩) = w9 at *
 have hq9 := fun i => hM.cell i
 refine bodyPost_ret (v := .tuple #[.agg #[.int .i64 0, .int .i64 0, .string ⟨#[]⟩, .string ⟨#[]⟩], .bool false]) ?_ rfl ⟨rfl, hB⟩
 simp [results, Tryz.results172, go_sem, hq9]
theorem change_b (a b : ByteArray) (w : World) (ha : 0 < a.size) (hb : ¬ 0 < b.size) :
  Calls Tryz.prog 172 #[.agg #[.string a, .string b]] w fun e w' => e = .returned (.tuple #[MV0, .bool false]) ∧ Below w.heap.size w w' := by
 unfold MV0
 have hA : Blk ((w.alloc (.cells #[.string a, .string b] 124)).alloc (.cells #[.int .i64 0, .int .i64 0, .string ⟨#[]⟩, .string ⟨#[]⟩] 184)) w.heap.size 124 #[.string a, .string b] := (Blk.new w 124 #[.string a, .string b]).alloc _
 have hM : Blk ((w.alloc (.cells #[.string a, .string b] 124)).alloc (.cells #[.int .i64 0, .int .i64 0, .string ⟨#[]⟩, .string ⟨#[]⟩] 184)) (w.heap.size + 1) 184 #[.int .i64 0, .int .i64 0, .string ⟨#[]⟩, .string ⟨#[]⟩] := blk2 w _ 184 #[.int .i64 0, .int .i64 0, .string ⟨#[]⟩, .string ⟨#[]⟩]
 have hB : Below w.heap.size w ((w.alloc (.cells #[.string a, .string b] 124)).alloc (.cells #[.int .i64 0, .int .i64 0, .string ⟨#[]⟩, .string ⟨#[]⟩] 184)) := ((Below.refl _ w).alloc (Nat.le_refl _) _).alloc (by simp only [World.size_alloc]; omega) _
 obtain rfl := size0 hb
 have al := ne_empty ha
 have ae : a.toList.isEmpty = false := by rw [List.isEmpty_eq_false_iff]; exact al
 have ab : (a.toList == []) = false := by rw [beq_eq_false_iff_ne]; exact al
 go_enter Tryz.func172, Tryz.ntmps172
 go_upto_region 1 with fail
 generalize (w.alloc (.cells #[.string a, .string ⟨#[]⟩] 124)).alloc (.cells #[.int .i64 0, .int .i64 0, .string ⟨#[]⟩, .string ⟨#[]⟩] 184) = W0 at *
 have hbx := fun p i => blw_blk hA p i
 refine wp_region_blw (by kernel_rfl) (by kernel_rfl) ?_
 repeat (go_big_quiet_step (fail))
 refine wpQuiet_nil ?_
 rintro W3 ⟨⟨_, hb3⟩, rfl⟩
 clear hbx
 replace hA := hA.below hb3 hA.lt; replace hM := hM.below hb3 hM.lt; replace hB := hB.trans (hb3.mono hB.size); clear hb3
 have hqM := fun i => hM.cell i; have hfM := fun i => hM.frozen i; have hlM := hM.lt
 go_wp2_with fail
 clear hqM hfM hlM
 replace hM := hM.set_ 0 (.int .i64 0); replace hB := hB.setCell (p := ⟨w.heap.size + 1, 0, none⟩) (Nat.le_succ _) (.int .i64 0)
 replace hM := hM.set_ 1 (.int .i64 0); replace hB := hB.setCell (p := ⟨w.heap.size + 1, 1, none⟩) (Nat.le_succ _) (.int .i64 0)
 replace hM := hM.set_ 2 (.string ⟨#[]⟩); replace hB := hB.setCell (p := ⟨w.heap.size + 1, 2, none⟩) (Nat.le_succ _) (.string ⟨#[]⟩)
 replace hM := hM.set_ 3 (.string ⟨#[]⟩); replace hB := hB.setCell (p := ⟨w.heap.size + 1, 3, none⟩) (Nat.le_succ _) (.string ⟨#[]⟩)
 replace hM : Blk (((((W3).setCell ⟨w.heap.size + 1, 0, none⟩ (.int .i64 0)).setCell ⟨w.heap.size + 1, 1, none⟩ (.int .i64 0)).setCell ⟨w.heap.size + 1, 2, none⟩ (.string ⟨#[]⟩)).setCell ⟨w.heap.size + 1, 3, none⟩ (.string ⟨#[]⟩)) (w.heap.size + 1) 184 #[.int .i64 0, .int .i64 0, .string ⟨#[]⟩, .string ⟨#[]⟩] := hM
 generalize ((((W3).setCell ⟨w.heap.size + 1, 0, none⟩ (.int .i64 0)).setCell ⟨w.heap.size + 1, 1, none⟩ (.int .i64 0)).setCell ⟨w.heap.size + 1, 2, none⟩ (.string ⟨#[]⟩)).setCell ⟨w.heap.size + 1, 3, none⟩ (.string ⟨#[]⟩) = w9 at *
 have hq9 := fun i => hM.cell i
 refine bodyPost_ret (v := .tuple #[.agg #[.int .i64 0, .int .i64 0, .string ⟨#[]⟩, .string ⟨#[]⟩], .bool false]) ?_ rfl ⟨rfl, hB⟩
 simp [results, Tryz.results172, go_sem, hq9]
theorem change_h (a b : ByteArray) (w : World) (ha : 0 < a.size) (hb : 0 < b.size) (hh : hd a = hd b) :
  Calls Tryz.prog 172 #[.agg #[.string a, .string b]] w fun e w' => e = .returned (.tuple #[MV0, .bool false]) ∧ Below w.heap.size w w' := by
 unfold MV0
 have hA : Blk ((w.alloc (.cells #[.string a, .string b] 124)).alloc (.cells #[.int .i64 0, .int .i64 0, .string ⟨#[]⟩, .string ⟨#[]⟩] 184)) w.heap.size 124 #[.string a, .string b] := (Blk.new w 124 #[.string a, .string b]).alloc _
 have hM : Blk ((w.alloc (.cells #[.string a, .string b] 124)).alloc (.cells #[.int .i64 0, .int .i64 0, .string ⟨#[]⟩, .string ⟨#[]⟩] 184)) (w.heap.size + 1) 184 #[.int .i64 0, .int .i64 0, .string ⟨#[]⟩, .string ⟨#[]⟩] := blk2 w _ 184 #[.int .i64 0, .int .i64 0, .string ⟨#[]⟩, .string ⟨#[]⟩]
 have hB : Below w.heap.size w ((w.alloc (.cells #[.string a, .string b] 124)).alloc (.cells #[.int .i64 0, .int .i64 0, .string ⟨#[]⟩, .string ⟨#[]⟩] 184)) := ((Below.refl _ w).alloc (Nat.le_refl _) _).alloc (by simp only [World.size_alloc]; omega) _
 have al := ne_empty ha
 have ae : a.toList.isEmpty = false := by rw [List.isEmpty_eq_false_iff]; exact al
 have ab : (a.toList == []) = false := by rw [beq_eq_false_iff_ne]; exact al
 have bl := ne_empty hb
 have be : b.toList.isEmpty = false := by rw [List.isEmpty_eq_false_iff]; exact bl
 have bb : (b.toList == []) = false := by rw [beq_eq_false_iff_ne]; exact bl
 have ai : (0 : Int) < a.size := by omega
 have a1 : (1 : Int) ≤ a.size := by omega
 have a0 := hd_eq a ha
 have bi : (0 : Int) < b.size := by omega
 have b1 : (1 : Int) ≤ b.size := by omega
 have b0 := hd_eq b hb
 have he1 : (((hd a).toNat : Int) == ((hd b).toNat : Int)) = true := by rw [hh]; simp
 have he2 : (((hd a).toNat : Int) != ((hd b).toNat : Int)) = false := by rw [hh]; simp
 clear hh
 go_enter Tryz.func172, Tryz.ntmps172
 go_upto_region 1 with fail
 generalize (w.alloc (.cells #[.string a, .string b] 124)).alloc (.cells #[.int .i64 0, .int .i64 0, .string ⟨#[]⟩, .string ⟨#[]⟩] 184) = W0 at *
 have hbx := fun p i => blw_blk hA p i
 refine wp_region_blw (by kernel_rfl) (by kernel_rfl) ?_
 repeat (go_big_quiet_step (fail))
 refine wpQuiet_nil ?_
 rintro W3 ⟨⟨_, hb3⟩, rfl⟩
 clear hbx
 replace hA := hA.below hb3 hA.lt; replace hM := hM.below hb3 hM.lt; replace hB := hB.trans (hb3.mono hB.size); clear hb3
 have hqM := fun i => hM.cell i; have hfM := fun i => hM.frozen i; have hlM := hM.lt
 go_wp2_with fail
 clear hqM hfM hlM
 replace hM := hM.set_ 0 (.int .i64 0); replace hB := hB.setCell (p := ⟨w.heap.size + 1, 0, none⟩) (Nat.le_succ _) (.int .i64 0)
 replace hM := hM.set_ 1 (.int .i64 0); replace hB := hB.setCell (p := ⟨w.heap.size + 1, 1, none⟩) (Nat.le_succ _) (.int .i64 0)
 replace hM := hM.set_ 2 (.string ⟨#[]⟩); replace hB := hB.setCell (p := ⟨w.heap.size + 1, 2, none⟩) (Nat.le_succ _) (.string ⟨#[]⟩)
 replace hM := hM.set_ 3 (.string ⟨#[]⟩); replace hB := hB.setCell (p := ⟨w.heap.size + 1, 3, none⟩) (Nat.le_succ _) (.string ⟨#[]⟩)
 replace hM : Blk (((((W3).setCell ⟨w.heap.size + 1, 0, none⟩ (.int .i64 0)).setCell ⟨w.heap.size + 1, 1, none⟩ (.int .i64 0)).setCell ⟨w.heap.size + 1, 2, none⟩ (.string ⟨#[]⟩)).setCell ⟨w.heap.size + 1, 3, none⟩ (.string ⟨#[]⟩)) (w.heap.size + 1) 184 #[.int .i64 0, .int .i64 0, .string ⟨#[]⟩, .string ⟨#[]⟩] := hM
 generalize ((((W3).setCell ⟨w.heap.size + 1, 0, none⟩ (.int .i64 0)).setCell ⟨w.heap.size + 1, 1, none⟩ (.int .i64 0)).setCell ⟨w.heap.size + 1, 2, none⟩ (.string ⟨#[]⟩)).setCell ⟨w.heap.size + 1, 3, none⟩ (.string ⟨#[]⟩) = w9 at *
 have hq9 := fun i => hM.cell i
 refine bodyPost_ret (v := .tuple #[.agg #[.int .i64 0, .int .i64 0, .string ⟨#[]⟩, .string ⟨#[]⟩], .bool false]) ?_ rfl ⟨rfl, hB⟩
 simp [results, Tryz.results172, go_sem, hq9]
theorem change_y (a b : ByteArray) (w : World) (ha : 0 < a.size) (hb : 0 < b.size) (hh : ¬ hd a = hd b) :
  Calls Tryz.prog 172 #[.agg #[.string a, .string b]] w fun e w' => e = .returned (.tuple #[MV.val ⟨2, hd b, tl a, tl b⟩, .bool true]) ∧ Below w.heap.size w w' := by
 unfold MV.val
 have hA : Blk ((w.alloc (.cells #[.string a, .string b] 124)).alloc (.cells #[.int .i64 0, .int .i64 0, .string ⟨#[]⟩, .string ⟨#[]⟩] 184)) w.heap.size 124 #[.string a, .string b] := (Blk.new w 124 #[.string a, .string b]).alloc _
 have hM : Blk ((w.alloc (.cells #[.string a, .string b] 124)).alloc (.cells #[.int .i64 0, .int .i64 0, .string ⟨#[]⟩, .string ⟨#[]⟩] 184)) (w.heap.size + 1) 184 #[.int .i64 0, .int .i64 0, .string ⟨#[]⟩, .string ⟨#[]⟩] := blk2 w _ 184 #[.int .i64 0, .int .i64 0, .string ⟨#[]⟩, .string ⟨#[]⟩]
 have hB : Below w.heap.size w ((w.alloc (.cells #[.string a, .string b] 124)).alloc (.cells #[.int .i64 0, .int .i64 0, .string ⟨#[]⟩, .string ⟨#[]⟩] 184)) := ((Below.refl _ w).alloc (Nat.le_refl _) _).alloc (by simp only [World.size_alloc]; omega) _
 have al := ne_empty ha
 have ae : a.toList.isEmpty = false := by rw [List.isEmpty_eq_false_iff]; exact al
 have ab : (a.toList == []) = false := by rw [beq_eq_false_iff_ne]; exact al
 have bl := ne_empty hb
 have be : b.toList.isEmpty = false := by rw [List.isEmpty_eq_false_iff]; exact bl
 have bb : (b.toList == []) = false := by rw [beq_eq_false_iff_ne]; exact bl
 have ai : (0 : Int) < a.size := by omega
 have a1 : (1 : Int) ≤ a.size := by omega
 have a0 := hd_eq a ha
 have bi : (0 : Int) < b.size := by omega
 have b1 : (1 : Int) ≤ b.size := by omega
 have b0 := hd_eq b hb
 have hn : ((hd a).toNat : Int) ≠ ((hd b).toNat : Int) := fun e => hh (UInt8.toNat_inj.1 (by omega))
 have he1 : (((hd a).toNat : Int) == ((hd b).toNat : Int)) = false := by rw [beq_eq_false_iff_ne]; exact hn
 have he2 : (((hd a).toNat : Int) != ((hd b).toNat : Int)) = true := by rw [bne_iff_ne]; exact hn
 clear hn hh
 go_enter Tryz.func172, Tryz.ntmps172
 go_upto_region 1 with fail
 generalize (w.alloc (.cells #[.string a, .string b] 124)).alloc (.cells #[.int .i64 0, .int .i64 0, .string ⟨#[]⟩, .string ⟨#[]⟩] 184) = W0 at *
 have hbx := fun p i => blw_blk hA p i
 refine wp_region_blw (by kernel_rfl) (by kernel_rfl) ?_
 repeat (go_big_quiet_step (fail))
 refine wpQuiet_nil ?_
 rintro W3 ⟨⟨_, hb3⟩, rfl⟩
 clear hbx
 replace hA := hA.below hb3 hA.lt; replace hM := hM.below hb3 hM.lt; replace hB := hB.trans (hb3.mono hB.size); clear hb3
 go_upto_region 3 with fail
 rename World => WR
 refine wp_region_G (fun w' => Blk w' w.heap.size 124 #[.string a, .string b]) 14 (by kernel_rfl) ?_
 replace hA := hA.drew; replace hM := hM.drew; replace hB := hB.drew
 generalize WR.drew = WD at *
 have hTT : Blk WD w.heap.size 124 #[.string a, .string b] := hA
 refine tk 0 (v := ?_) rfl (Or.inl ⟨by rfl, ?h⟩) hTT ?_
 case h => intro wq hSw; have hqA := fun i => hSw.cell i; have ta : a.extract 1 a.size = tl a := rfl; have tb : b.extract 1 b.size = tl b := rfl; go_simp <;> with_reducible rfl
 simp only [LS, Act.put]
 refine tk 1 (v := ?_) rfl (Or.inl ⟨by rfl, ?h⟩) hTT ?_
 case h => intro wq hSw; have hqA := fun i => hSw.cell i; have ta : a.extract 1 a.size = tl a := rfl; have tb : b.extract 1 b.size = tl b := rfl; go_simp <;> with_reducible rfl
 simp only [LS, Act.put]
 refine tk 2 (v := ?_) rfl (Or.inl ⟨by rfl, ?h⟩) hTT ?_
 case h => intro wq hSw; have hqA := fun i => hSw.cell i; have ta : a.extract 1 a.size = tl a := rfl; have tb : b.extract 1 b.size = tl b := rfl; go_simp <;> with_reducible rfl
 simp only [LS, Act.put]
 refine tk 3 (v := ?_) rfl (Or.inl ⟨by rfl, ?h⟩) hTT ?_
 case h => intro wq hSw; have hqA := fun i => hSw.cell i; have ta : a.extract 1 a.size = tl a := rfl; have tb : b.extract 1 b.size = tl b := rfl; go_simp <;> with_reducible rfl
 simp only [LS, Act.put]
 refine tk 4 (v := ?_) rfl (Or.inl ⟨by rfl, ?h⟩) hTT ?_
 case h => intro wq hSw; have hqA := fun i => hSw.cell i; have ta : a.extract 1 a.size = tl a := rfl; have tb : b.extract 1 b.size = tl b := rfl; go_simp <;> with_reducible rfl
 simp only [LS, Act.put]
 refine tk 5 (v := ?_) rfl (Or.inl ⟨by rfl, ?h⟩) hTT ?_
 case h => intro wq hSw; have hqA := fun i => hSw.cell i; have ta : a.extract 1 a.size = tl a := rfl; have tb : b.extract 1 b.size = tl b := rfl; go_simp <;> with_reducible rfl
 simp only [LS, Act.put]
 refine tk 6 (v := ?_) rfl (Or.inl ⟨by rfl, ?h⟩) hTT ?_
 case h => intro wq hSw; have hqA := fun i => hSw.cell i; have ta : a.extract 1 a.size = tl a := rfl; have tb : b.extract 1 b.size = tl b := rfl; go_simp <;> with_reducible rfl
 simp only [LS, Act.put]
 refine tk 7 (v := ?_) rfl (Or.inl ⟨by rfl, ?h⟩) hTT ?_
 case h => intro wq hSw; have hqA := fun i => hSw.cell i; have ta : a.extract 1 a.size = tl a := rfl; have tb : b.extract 1 b.size = tl b := rfl; go_simp <;> with_reducible rfl
 simp only [LS, Act.put]
 refine tk 8 (v := ?_) rfl (Or.inl ⟨by rfl, ?h⟩) hTT ?_
 case h => intro wq hSw; have hqA := fun i => hSw.cell i; have ta : a.extract 1 a.size = tl a := rfl; have tb : b.extract 1 b.size = tl b := rfl; go_simp <;> with_reducible rfl
 simp only [LS, Act.put]
 refine tk 9 (v := ?_) rfl (Or.inl ⟨by rfl, ?h⟩) hTT ?_
 case h => intro wq hSw; have hqA := fun i => hSw.cell i; have ta : a.extract 1 a.size = tl a := rfl; have tb : b.extract 1 b.size = tl b := rfl; go_simp <;> with_reducible rfl
 simp only [LS, Act.put]
 refine o1 10 rfl fun K hK => ?_
 go_simp
 refine (moveTo_any (tl a) (tl b) 2 (hd b) _).mono ?_
 rintro e w1 ⟨rfl, hb⟩
 replace hA := hA.below hb hA.lt; replace hM := hM.below hb hM.lt; replace hB := hB.trans (hb.mono hB.size); clear hb; clear hTT; have hTT := hA
 dsimp only [MV.val]
 refine hK _ _ (.inr hTT) ?_
 clear hK K
 try simp only [LS, Act.put]
 refine tk 11 (v := ?_) rfl (Or.inl ⟨by rfl, ?h⟩) hTT ?_
 case h => intro wq hSw; have hqA := fun i => hSw.cell i; have ta : a.extract 1 a.size = tl a := rfl; have tb : b.extract 1 b.size = tl b := rfl; go_simp <;> with_reducible rfl
 simp only [LS, Act.put]
 refine tk 12 (v := ?_) rfl (Or.inl ⟨by rfl, ?h⟩) hTT ?_
 case h => intro wq hSw; have hqA := fun i => hSw.cell i; have ta : a.extract 1 a.size = tl a := rfl; have tb : b.extract 1 b.size = tl b := rfl; go_simp <;> with_reducible rfl
 simp only [LS, Act.put]
 refine o1 13 rfl fun K hK => ?_
 have hqM := fun i => hM.cell i; have hfM := fun i => hM.frozen i; have hlM := hM.lt
 go_simp
 clear hqM hfM hlM
 replace hM := hM.set_ 0 (.int .i64 2); replace hA := hA.far (p := ⟨w.heap.size + 1, 0, none⟩) (show w.heap.size ≠ w.heap.size + 1 by omega) (.int .i64 2); replace hB := hB.setCell (p := ⟨w.heap.size + 1, 0, none⟩) (Nat.le_succ _) (.int .i64 2)
 replace hM := hM.set_ 1 (.int .i64 ((hd b).toNat : Int)); replace hA := hA.far (p := ⟨w.heap.size + 1, 1, none⟩) (show w.heap.size ≠ w.heap.size + 1 by omega) (.int .i64 ((hd b).toNat : Int)); replace hB := hB.setCell (p := ⟨w.heap.size + 1, 1, none⟩) (Nat.le_succ _) (.int .i64 ((hd b).toNat : Int))
 replace hM := hM.set_ 2 (.string (tl a)); replace hA := hA.far (p := ⟨w.heap.size + 1, 2, none⟩) (show w.heap.size ≠ w.heap.size + 1 by omega) (.string (tl a)); replace hB := hB.setCell (p := ⟨w.heap.size + 1, 2, none⟩) (Nat.le_succ _) (.string (tl a))
 replace hM := hM.set_ 3 (.string (tl b)); replace hA := hA.far (p := ⟨w.heap.size + 1, 3, none⟩) (show w.heap.size ≠ w.heap.size + 1 by omega) (.string (tl b)); replace hB := hB.setCell (p := ⟨w.heap.size + 1, 3, none⟩) (Nat.le_succ _) (.string (tl b))
 clear hTT; have hTT := hA
 refine hK _ _ (.inr hTT) ?_
 clear hK K
 try simp only [LS, Act.put]
 refine o1 14 rfl fun K hK => ?_
 go_simp
 refine hK _ _ (.inl rfl) ?_
 clear hK K
 try simp only [LS, Act.put]
 refine wpG_done (by kernel_rfl) ?_ _
 clear hTT
 go_wp2_with fail
 have hq9 := fun i => hM.cell i
 refine bodyPost_ret (v := .tuple #[.agg #[.int .i64 2, .int .i64 ((hd b).toNat : Int), .string (tl a), .string (tl b)], .bool true]) ?_ rfl ⟨rfl, hB⟩
 simp [results, Tryz.results172, go_sem, hq9]
theorem add_n (a b : ByteArray) (w : World) (hb : ¬ 0 < b.size) :
  Calls Tryz.prog 173 #[.agg #[.string a, .string b]] w fun e w' => e = .returned (.tuple #[MV0, .bool false]) ∧ Below w.heap.size w w' := by
 unfold MV0
 have hA : Blk ((w.alloc (.cells #[.string a, .string b] 124)).alloc (.cells #[.int .i64 0, .int .i64 0, .string ⟨#[]⟩, .string ⟨#[]⟩] 184)) w.heap.size 124 #[.string a, .string b] := (Blk.new w 124 #[.string a, .string b]).alloc _
 have hM : Blk ((w.alloc (.cells #[.string a, .string b] 124)).alloc (.cells #[.int .i64 0, .int .i64 0, .string ⟨#[]⟩, .string ⟨#[]⟩] 184)) (w.heap.size + 1) 184 #[.int .i64 0, .int .i64 0, .string ⟨#[]⟩, .string ⟨#[]⟩] := blk2 w _ 184 #[.int .i64 0, .int .i64 0, .string ⟨#[]⟩, .string ⟨#[]⟩]
 have hB : Below w.heap.size w ((w.alloc (.cells #[.string a, .string b] 124)).alloc (.cells #[.int .i64 0, .int .i64 0, .string ⟨#[]⟩, .string ⟨#[]⟩] 184)) := ((Below.refl _ w).alloc (Nat.le_refl _) _).alloc (by simp only [World.size_alloc]; omega) _
 obtain rfl := size0 hb
 go_enter Tryz.func173, Tryz.ntmps173
 go_wp2_with fail
 refine bodyPost_ret (v := .tuple #[.agg #[.int .i64 0, .int .i64 0, .string ⟨#[]⟩, .string ⟨#[]⟩], .bool false]) ?_ rfl ⟨rfl, hB⟩
 simp [results, Tryz.results173, go_sem]
theorem add_y (a b : ByteArray) (w : World) (hb : 0 < b.size) :
  Calls Tryz.prog 173 #[.agg #[.string a, .string b]] w fun e w' => e = .returned (.tuple #[MV.val ⟨3, hd b, a, tl b⟩, .bool true]) ∧ Below w.heap.size w w' := by
 unfold MV.val
 have hA : Blk ((w.alloc (.cells #[.string a, .string b] 124)).alloc (.cells #[.int .i64 0, .int .i64 0, .string ⟨#[]⟩, .string ⟨#[]⟩] 184)) w.heap.size 124 #[.string a, .string b] := (Blk.new w 124 #[.string a, .string b]).alloc _
 have hM : Blk ((w.alloc (.cells #[.string a, .string b] 124)).alloc (.cells #[.int .i64 0, .int .i64 0, .string ⟨#[]⟩, .string ⟨#[]⟩] 184)) (w.heap.size + 1) 184 #[.int .i64 0, .int .i64 0, .string ⟨#[]⟩, .string ⟨#[]⟩] := blk2 w _ 184 #[.int .i64 0, .int .i64 0, .string ⟨#[]⟩, .string ⟨#[]⟩]
 have hB : Below w.heap.size w ((w.alloc (.cells #[.string a, .string b] 124)).alloc (.cells #[.int .i64 0, .int .i64 0, .string ⟨#[]⟩, .string ⟨#[]⟩] 184)) := ((Below.refl _ w).alloc (Nat.le_refl _) _).alloc (by simp only [World.size_alloc]; omega) _
 have bl := ne_empty hb
 have be : b.toList.isEmpty = false := by rw [List.isEmpty_eq_false_iff]; exact bl
 have bb : (b.toList == []) = false := by rw [beq_eq_false_iff_ne]; exact bl
 have bi : (0 : Int) < b.size := by omega
 have b1 : (1 : Int) ≤ b.size := by omega
 have b0 := hd_eq b hb
 go_enter Tryz.func173, Tryz.ntmps173
 go_upto_region 1 with fail
 generalize (w.alloc (.cells #[.string a, .string b] 124)).alloc (.cells #[.int .i64 0, .int .i64 0, .string ⟨#[]⟩, .string ⟨#[]⟩] 184) = W0 at *
 have hqA := fun i => hA.cell i
 go_upto_region 3 with fail
 clear hqA
 rename World => WR
 refine wp_region_G (fun w' => Blk w' w.heap.size 124 #[.string a, .string b]) 13 (by kernel_rfl) ?_
 replace hA := hA.drew; replace hM := hM.drew; replace hB := hB.drew
 generalize WR.drew = WD at *
 have hTT : Blk WD w.heap.size 124 #[.string a, .string b] := hA
 refine tk 0 (v := ?_) rfl (Or.inl ⟨by rfl, ?h⟩) hTT ?_
 case h => intro wq hSw; have hqA := fun i => hSw.cell i; have tb : b.extract 1 b.size = tl b := rfl; go_simp <;> with_reducible rfl
 simp only [LS, Act.put]
 refine tk 1 (v := ?_) rfl (Or.inl ⟨by rfl, ?h⟩) hTT ?_
 case h => intro wq hSw; have hqA := fun i => hSw.cell i; have tb : b.extract 1 b.size = tl b := rfl; go_simp <;> with_reducible rfl
 simp only [LS, Act.put]
 refine tk 2 (v := ?_) rfl (Or.inl ⟨by rfl, ?h⟩) hTT ?_
 case h => intro wq hSw; have hqA := fun i => hSw.cell i; have tb : b.extract 1 b.size = tl b := rfl; go_simp <;> with_reducible rfl
 simp only [LS, Act.put]
 refine tk 3 (v := ?_) rfl (Or.inl ⟨by rfl, ?h⟩) hTT ?_
 case h => intro wq hSw; have hqA := fun i => hSw.cell i; have tb : b.extract 1 b.size = tl b := rfl; go_simp <;> with_reducible rfl
 simp only [LS, Act.put]
 refine tk 4 (v := ?_) rfl (Or.inl ⟨by rfl, ?h⟩) hTT ?_
 case h => intro wq hSw; have hqA := fun i => hSw.cell i; have tb : b.extract 1 b.size = tl b := rfl; go_simp <;> with_reducible rfl
 simp only [LS, Act.put]
 refine tk 5 (v := ?_) rfl (Or.inl ⟨by rfl, ?h⟩) hTT ?_
 case h => intro wq hSw; have hqA := fun i => hSw.cell i; have tb : b.extract 1 b.size = tl b := rfl; go_simp <;> with_reducible rfl
 simp only [LS, Act.put]
 refine tk 6 (v := ?_) rfl (Or.inl ⟨by rfl, ?h⟩) hTT ?_
 case h => intro wq hSw; have hqA := fun i => hSw.cell i; have tb : b.extract 1 b.size = tl b := rfl; go_simp <;> with_reducible rfl
 simp only [LS, Act.put]
 refine tk 7 (v := ?_) rfl (Or.inl ⟨by rfl, ?h⟩) hTT ?_
 case h => intro wq hSw; have hqA := fun i => hSw.cell i; have tb : b.extract 1 b.size = tl b := rfl; go_simp <;> with_reducible rfl
 simp only [LS, Act.put]
 refine tk 8 (v := ?_) rfl (Or.inl ⟨by rfl, ?h⟩) hTT ?_
 case h => intro wq hSw; have hqA := fun i => hSw.cell i; have tb : b.extract 1 b.size = tl b := rfl; go_simp <;> with_reducible rfl
 simp only [LS, Act.put]
 refine o1 9 rfl fun K hK => ?_
 go_simp
 refine (moveTo_any (a) (tl b) 3 (hd b) _).mono ?_
 rintro e w1 ⟨rfl, hb⟩
 replace hA := hA.below hb hA.lt; replace hM := hM.below hb hM.lt; replace hB := hB.trans (hb.mono hB.size); clear hb; clear hTT; have hTT := hA
 dsimp only [MV.val]
 refine hK _ _ (.inr hTT) ?_
 clear hK K
 try simp only [LS, Act.put]
 refine tk 10 (v := ?_) rfl (Or.inl ⟨by rfl, ?h⟩) hTT ?_
 case h => intro wq hSw; have hqA := fun i => hSw.cell i; have tb : b.extract 1 b.size = tl b := rfl; go_simp <;> with_reducible rfl
 simp only [LS, Act.put]
 refine tk 11 (v := ?_) rfl (Or.inl ⟨by rfl, ?h⟩) hTT ?_
 case h => intro wq hSw; have hqA := fun i => hSw.cell i; have tb : b.extract 1 b.size = tl b := rfl; go_simp <;> with_reducible rfl
 simp only [LS, Act.put]
 refine o1 12 rfl fun K hK => ?_
 have hqM := fun i => hM.cell i; have hfM := fun i => hM.frozen i; have hlM := hM.lt
 go_simp
 clear hqM hfM hlM
 replace hM := hM.set_ 0 (.int .i64 3); replace hA := hA.far (p := ⟨w.heap.size + 1, 0, none⟩) (show w.heap.size ≠ w.heap.size + 1 by omega) (.int .i64 3); replace hB := hB.setCell (p := ⟨w.heap.size + 1, 0, none⟩) (Nat.le_succ _) (.int .i64 3)
 replace hM := hM.set_ 1 (.int .i64 ((hd b).toNat : Int)); replace hA := hA.far (p := ⟨w.heap.size + 1, 1, none⟩) (show w.heap.size ≠ w.heap.size + 1 by omega) (.int .i64 ((hd b).toNat : Int)); replace hB := hB.setCell (p := ⟨w.heap.size + 1, 1, none⟩) (Nat.le_succ _) (.int .i64 ((hd b).toNat : Int))
 replace hM := hM.set_ 2 (.string (a)); replace hA := hA.far (p := ⟨w.heap.size + 1, 2, none⟩) (show w.heap.size ≠ w.heap.size + 1 by omega) (.string (a)); replace hB := hB.setCell (p := ⟨w.heap.size + 1, 2, none⟩) (Nat.le_succ _) (.string (a))
 replace hM := hM.set_ 3 (.string (tl b)); replace hA := hA.far (p := ⟨w.heap.size + 1, 3, none⟩) (show w.heap.size ≠ w.heap.size + 1 by omega) (.string (tl b)); replace hB := hB.setCell (p := ⟨w.heap.size + 1, 3, none⟩) (Nat.le_succ _) (.string (tl b))
 clear hTT; have hTT := hA
 refine hK _ _ (.inr hTT) ?_
 clear hK K
 try simp only [LS, Act.put]
 refine o1 13 rfl fun K hK => ?_
 go_simp
 refine hK _ _ (.inl rfl) ?_
 clear hK K
 try simp only [LS, Act.put]
 refine wpG_done (by kernel_rfl) ?_ _
 clear hTT
 go_wp2_with fail
 have hq9 := fun i => hM.cell i
 refine bodyPost_ret (v := .tuple #[.agg #[.int .i64 3, .int .i64 ((hd b).toNat : Int), .string (a), .string (tl b)], .bool true]) ?_ rfl ⟨rfl, hB⟩
 simp [results, Tryz.results173, go_sem, hq9]
theorem drop_n (a b : ByteArray) (w : World) (ha : ¬ 0 < a.size) :
  Calls Tryz.prog 174 #[.agg #[.string a, .string b]] w fun e w' => e = .returned (.tuple #[MV0, .bool false]) ∧ Below w.heap.size w w' := by
 unfold MV0
 have hA : Blk ((w.alloc (.cells #[.string a, .string b] 124)).alloc (.cells #[.int .i64 0, .int .i64 0, .string ⟨#[]⟩, .string ⟨#[]⟩] 184)) w.heap.size 124 #[.string a, .string b] := (Blk.new w 124 #[.string a, .string b]).alloc _
 have hM : Blk ((w.alloc (.cells #[.string a, .string b] 124)).alloc (.cells #[.int .i64 0, .int .i64 0, .string ⟨#[]⟩, .string ⟨#[]⟩] 184)) (w.heap.size + 1) 184 #[.int .i64 0, .int .i64 0, .string ⟨#[]⟩, .string ⟨#[]⟩] := blk2 w _ 184 #[.int .i64 0, .int .i64 0, .string ⟨#[]⟩, .string ⟨#[]⟩]
 have hB : Below w.heap.size w ((w.alloc (.cells #[.string a, .string b] 124)).alloc (.cells #[.int .i64 0, .int .i64 0, .string ⟨#[]⟩, .string ⟨#[]⟩] 184)) := ((Below.refl _ w).alloc (Nat.le_refl _) _).alloc (by simp only [World.size_alloc]; omega) _
 obtain rfl := size0 ha
 go_enter Tryz.func174, Tryz.ntmps174
 go_wp2_with fail
 refine bodyPost_ret (v := .tuple #[.agg #[.int .i64 0, .int .i64 0, .string ⟨#[]⟩, .string ⟨#[]⟩], .bool false]) ?_ rfl ⟨rfl, hB⟩
 simp [results, Tryz.results174, go_sem]
theorem drop_y (a b : ByteArray) (w : World) (ha : 0 < a.size) :
  Calls Tryz.prog 174 #[.agg #[.string a, .string b]] w fun e w' => e = .returned (.tuple #[MV.val ⟨4, hd a, tl a, b⟩, .bool true]) ∧ Below w.heap.size w w' := by
 unfold MV.val
 have hA : Blk ((w.alloc (.cells #[.string a, .string b] 124)).alloc (.cells #[.int .i64 0, .int .i64 0, .string ⟨#[]⟩, .string ⟨#[]⟩] 184)) w.heap.size 124 #[.string a, .string b] := (Blk.new w 124 #[.string a, .string b]).alloc _
 have hM : Blk ((w.alloc (.cells #[.string a, .string b] 124)).alloc (.cells #[.int .i64 0, .int .i64 0, .string ⟨#[]⟩, .string ⟨#[]⟩] 184)) (w.heap.size + 1) 184 #[.int .i64 0, .int .i64 0, .string ⟨#[]⟩, .string ⟨#[]⟩] := blk2 w _ 184 #[.int .i64 0, .int .i64 0, .string ⟨#[]⟩, .string ⟨#[]⟩]
 have hB : Below w.heap.size w ((w.alloc (.cells #[.string a, .string b] 124)).alloc (.cells #[.int .i64 0, .int .i64 0, .string ⟨#[]⟩, .string ⟨#[]⟩] 184)) := ((Below.refl _ w).alloc (Nat.le_refl _) _).alloc (by simp only [World.size_alloc]; omega) _
 have al := ne_empty ha
 have ae : a.toList.isEmpty = false := by rw [List.isEmpty_eq_false_iff]; exact al
 have ab : (a.toList == []) = false := by rw [beq_eq_false_iff_ne]; exact al
 have ai : (0 : Int) < a.size := by omega
 have a1 : (1 : Int) ≤ a.size := by omega
 have a0 := hd_eq a ha
 go_enter Tryz.func174, Tryz.ntmps174
 go_upto_region 1 with fail
 generalize (w.alloc (.cells #[.string a, .string b] 124)).alloc (.cells #[.int .i64 0, .int .i64 0, .string ⟨#[]⟩, .string ⟨#[]⟩] 184) = W0 at *
 have hqA := fun i => hA.cell i
 go_upto_region 3 with fail
 clear hqA
 rename World => WR
 refine wp_region_G (fun w' => Blk w' w.heap.size 124 #[.string a, .string b]) 13 (by kernel_rfl) ?_
 replace hA := hA.drew; replace hM := hM.drew; replace hB := hB.drew
 generalize WR.drew = WD at *
 have hTT : Blk WD w.heap.size 124 #[.string a, .string b] := hA
 refine tk 0 (v := ?_) rfl (Or.inl ⟨by rfl, ?h⟩) hTT ?_
 case h => intro wq hSw; have hqA := fun i => hSw.cell i; have ta : a.extract 1 a.size = tl a := rfl; go_simp <;> with_reducible rfl
 simp only [LS, Act.put]
 refine tk 1 (v := ?_) rfl (Or.inl ⟨by rfl, ?h⟩) hTT ?_
 case h => intro wq hSw; have hqA := fun i => hSw.cell i; have ta : a.extract 1 a.size = tl a := rfl; go_simp <;> with_reducible rfl
 simp only [LS, Act.put]
 refine tk 2 (v := ?_) rfl (Or.inl ⟨by rfl, ?h⟩) hTT ?_
 case h => intro wq hSw; have hqA := fun i => hSw.cell i; have ta : a.extract 1 a.size = tl a := rfl; go_simp <;> with_reducible rfl
 simp only [LS, Act.put]
 refine tk 3 (v := ?_) rfl (Or.inl ⟨by rfl, ?h⟩) hTT ?_
 case h => intro wq hSw; have hqA := fun i => hSw.cell i; have ta : a.extract 1 a.size = tl a := rfl; go_simp <;> with_reducible rfl
 simp only [LS, Act.put]
 refine tk 4 (v := ?_) rfl (Or.inl ⟨by rfl, ?h⟩) hTT ?_
 case h => intro wq hSw; have hqA := fun i => hSw.cell i; have ta : a.extract 1 a.size = tl a := rfl; go_simp <;> with_reducible rfl
 simp only [LS, Act.put]
 refine tk 5 (v := ?_) rfl (Or.inl ⟨by rfl, ?h⟩) hTT ?_
 case h => intro wq hSw; have hqA := fun i => hSw.cell i; have ta : a.extract 1 a.size = tl a := rfl; go_simp <;> with_reducible rfl
 simp only [LS, Act.put]
 refine tk 6 (v := ?_) rfl (Or.inl ⟨by rfl, ?h⟩) hTT ?_
 case h => intro wq hSw; have hqA := fun i => hSw.cell i; have ta : a.extract 1 a.size = tl a := rfl; go_simp <;> with_reducible rfl
 simp only [LS, Act.put]
 refine tk 7 (v := ?_) rfl (Or.inl ⟨by rfl, ?h⟩) hTT ?_
 case h => intro wq hSw; have hqA := fun i => hSw.cell i; have ta : a.extract 1 a.size = tl a := rfl; go_simp <;> with_reducible rfl
 simp only [LS, Act.put]
 refine tk 8 (v := ?_) rfl (Or.inl ⟨by rfl, ?h⟩) hTT ?_
 case h => intro wq hSw; have hqA := fun i => hSw.cell i; have ta : a.extract 1 a.size = tl a := rfl; go_simp <;> with_reducible rfl
 simp only [LS, Act.put]
 refine o1 9 rfl fun K hK => ?_
 go_simp
 refine (moveTo_any (tl a) (b) 4 (hd a) _).mono ?_
 rintro e w1 ⟨rfl, hb⟩
 replace hA := hA.below hb hA.lt; replace hM := hM.below hb hM.lt; replace hB := hB.trans (hb.mono hB.size); clear hb; clear hTT; have hTT := hA
 dsimp only [MV.val]
 refine hK _ _ (.inr hTT) ?_
 clear hK K
 try simp only [LS, Act.put]
 refine tk 10 (v := ?_) rfl (Or.inl ⟨by rfl, ?h⟩) hTT ?_
 case h => intro wq hSw; have hqA := fun i => hSw.cell i; have ta : a.extract 1 a.size = tl a := rfl; go_simp <;> with_reducible rfl
 simp only [LS, Act.put]
 refine tk 11 (v := ?_) rfl (Or.inl ⟨by rfl, ?h⟩) hTT ?_
 case h => intro wq hSw; have hqA := fun i => hSw.cell i; have ta : a.extract 1 a.size = tl a := rfl; go_simp <;> with_reducible rfl
 simp only [LS, Act.put]
 refine o1 12 rfl fun K hK => ?_
 have hqM := fun i => hM.cell i; have hfM := fun i => hM.frozen i; have hlM := hM.lt
 go_simp
 clear hqM hfM hlM
 replace hM := hM.set_ 0 (.int .i64 4); replace hA := hA.far (p := ⟨w.heap.size + 1, 0, none⟩) (show w.heap.size ≠ w.heap.size + 1 by omega) (.int .i64 4); replace hB := hB.setCell (p := ⟨w.heap.size + 1, 0, none⟩) (Nat.le_succ _) (.int .i64 4)
 replace hM := hM.set_ 1 (.int .i64 ((hd a).toNat : Int)); replace hA := hA.far (p := ⟨w.heap.size + 1, 1, none⟩) (show w.heap.size ≠ w.heap.size + 1 by omega) (.int .i64 ((hd a).toNat : Int)); replace hB := hB.setCell (p := ⟨w.heap.size + 1, 1, none⟩) (Nat.le_succ _) (.int .i64 ((hd a).toNat : Int))
 replace hM := hM.set_ 2 (.string (tl a)); replace hA := hA.far (p := ⟨w.heap.size + 1, 2, none⟩) (show w.heap.size ≠ w.heap.size + 1 by omega) (.string (tl a)); replace hB := hB.setCell (p := ⟨w.heap.size + 1, 2, none⟩) (Nat.le_succ _) (.string (tl a))
 replace hM := hM.set_ 3 (.string (b)); replace hA := hA.far (p := ⟨w.heap.size + 1, 3, none⟩) (show w.heap.size ≠ w.heap.size + 1 by omega) (.string (b)); replace hB := hB.setCell (p := ⟨w.heap.size + 1, 3, none⟩) (Nat.le_succ _) (.string (b))
 clear hTT; have hTT := hA
 refine hK _ _ (.inr hTT) ?_
 clear hK K
 try simp only [LS, Act.put]
 refine o1 13 rfl fun K hK => ?_
 go_simp
 refine hK _ _ (.inl rfl) ?_
 clear hK K
 try simp only [LS, Act.put]
 refine wpG_done (by kernel_rfl) ?_ _
 clear hTT
 go_wp2_with fail
 have hq9 := fun i => hM.cell i
 refine bodyPost_ret (v := .tuple #[.agg #[.int .i64 4, .int .i64 ((hd a).toNat : Int), .string (tl a), .string (b)], .bool true]) ?_ rfl ⟨rfl, hB⟩
 simp [results, Tryz.results174, go_sem, hq9]
end
section
open Go.RowKit Go.Lib
def mvO (k : Nat) (a b : ByteArray) : Option MV :=
 match k with
 | 0 => if 0 < a.size ∧ 0 < b.size ∧ hd a = hd b then some ⟨1, hd a, tl a, tl b⟩ else none
 | 1 => if 0 < a.size ∧ 0 < b.size ∧ hd a ≠ hd b then some ⟨2, hd b, tl a, tl b⟩ else none
 | 2 => if 0 < b.size then some ⟨3, hd b, a, tl b⟩ else none
 | _ => if 0 < a.size then some ⟨4, hd a, tl a, b⟩ else none
def mvV (o : Option MV) : Value := match o with | some m => m.val | none => MV0
def mvR (o : Option MV) : Ending := .returned (.tuple #[mvV o, .bool o.isSome])
theorem mv0_any (a b : ByteArray) (w : World) : Calls Tryz.prog 171 #[.agg #[.string a, .string b]] w fun e w' => e = mvR (mvO 0 a b) ∧ Below w.heap.size w w' := by
 by_cases ha : 0 < a.size
 ·by_cases hb : 0 < b.size
  ·by_cases hh : hd a = hd b
   ·have e : mvO 0 a b = some ⟨1, hd a, tl a, tl b⟩ := if_pos ⟨ha, hb, hh⟩
    rw [e]; exact keep_y a b w ha hb hh
   ·have e : mvO 0 a b = none := if_neg (fun h => hh h.2.2)
    rw [e]; exact keep_h a b w ha hb hh
  ·have e : mvO 0 a b = none := if_neg (fun h => hb h.2.1)
   rw [e]; exact keep_b a b w ha hb
 ·have e : mvO 0 a b = none := if_neg (fun h => ha h.1)
  rw [e]; exact keep_a a b w ha
theorem mv1_any (a b : ByteArray) (w : World) : Calls Tryz.prog 172 #[.agg #[.string a, .string b]] w fun e w' => e = mvR (mvO 1 a b) ∧ Below w.heap.size w w' := by
 by_cases ha : 0 < a.size
 ·by_cases hb : 0 < b.size
  ·by_cases hh : hd a = hd b
   ·have e : mvO 1 a b = none := if_neg (fun h => h.2.2 hh)
    rw [e]; exact change_h a b w ha hb hh
   ·have e : mvO 1 a b = some ⟨2, hd b, tl a, tl b⟩ := if_pos ⟨ha, hb, hh⟩
    rw [e]; exact change_y a b w ha hb hh
  ·have e : mvO 1 a b = none := if_neg (fun h => hb h.2.1)
   rw [e]; exact change_b a b w ha hb
 ·have e : mvO 1 a b = none := if_neg (fun h => ha h.1)
  rw [e]; exact change_a a b w ha
theorem mv2_any (a b : ByteArray) (w : World) : Calls Tryz.prog 173 #[.agg #[.string a, .string b]] w fun e w' => e = mvR (mvO 2 a b) ∧ Below w.heap.size w w' := by
 by_cases hb : 0 < b.size
 ·have e : mvO 2 a b = some ⟨3, hd b, a, tl b⟩ := if_pos hb
  rw [e]; exact add_y a b w hb
 ·have e : mvO 2 a b = none := if_neg hb
  rw [e]; exact add_n a b w hb
theorem mv3_any (a b : ByteArray) (w : World) : Calls Tryz.prog 174 #[.agg #[.string a, .string b]] w fun e w' => e = mvR (mvO 3 a b) ∧ Below w.heap.size w w' := by
 by_cases ha : 0 < a.size
 ·have e : mvO 3 a b = some ⟨4, hd a, tl a, b⟩ := if_pos ha
  rw [e]; exact drop_y a b w ha
 ·have e : mvO 3 a b = none := if_neg ha
  rw [e]; exact drop_n a b w ha
def movesP (k : Nat) (a b : ByteArray) : List MV := (List.range k).filterMap fun i => mvO i a b
theorem movesP_succ (k : Nat) (a b : ByteArray) : movesP (k + 1) a b = movesP k a b ++ (mvO k a b).toList := by
 unfold movesP
 rw [List.range_succ, List.filterMap_append]
 cases h : mvO k a b <;> simp [h]
theorem movesP_len (k : Nat) (a b : ByteArray) : (movesP k a b).length ≤ k := by
 have := List.length_filterMap_le (fun i => mvO i a b) (List.range k)
 rw [List.length_range] at this
 exact this
theorem info184 : (Tryz.prog.info? 184).map (fun i => (i.zero, i.size, i.bytes)) = some (some (.agg #[.int .i64 0, .int .i64 0, .string ByteArray.empty, .string ByteArray.empty]), 4, 48) := by kernel_rfl
theorem moves_any (a b : ByteArray) (w : World) :
  Calls Tryz.prog 132 #[.agg #[.string a, .string b]] w fun e w' => ∃ v, e = .returned v ∧ w'.ownsRow w.heap.size 184 4 v (movesP 4 a b).length ((movesP 4 a b).flatMap MV.cells) ∧ Below w.heap.size w w' := by
 obtain ⟨i184, hi, hz0, hz1', hz2'⟩ := info_parts info184
 have hmf : ∀ (fn : Fn) (first cap : Array Value) (w : World), (Instr.makeFunc fn first cap).run Tryz.prog w = .ok (.func fn first cap) w := fun _ _ _ _ => rfl
 have ix0 : ∀ w, (Instr.index 237 (.agg #[.func (.func 171) #[.agg #[.string a, .string b]] #[], .func (.func 172) #[.agg #[.string a, .string b]] #[], .func (.func 173) #[.agg #[.string a, .string b]] #[], .func (.func 174) #[.agg #[.string a, .string b]] #[]]) (.int .i64 0)).run Tryz.prog w = .ok (.func (.func 171) #[.agg #[.string a, .string b]] #[]) w := fun _ => by kernel_rfl
 have ix1 : ∀ w, (Instr.index 237 (.agg #[.func (.func 171) #[.agg #[.string a, .string b]] #[], .func (.func 172) #[.agg #[.string a, .string b]] #[], .func (.func 173) #[.agg #[.string a, .string b]] #[], .func (.func 174) #[.agg #[.string a, .string b]] #[]]) (.int .i64 1)).run Tryz.prog w = .ok (.func (.func 172) #[.agg #[.string a, .string b]] #[]) w := fun _ => by kernel_rfl
 have ix2 : ∀ w, (Instr.index 237 (.agg #[.func (.func 171) #[.agg #[.string a, .string b]] #[], .func (.func 172) #[.agg #[.string a, .string b]] #[], .func (.func 173) #[.agg #[.string a, .string b]] #[], .func (.func 174) #[.agg #[.string a, .string b]] #[]]) (.int .i64 2)).run Tryz.prog w = .ok (.func (.func 173) #[.agg #[.string a, .string b]] #[]) w := fun _ => by kernel_rfl
 have ix3 : ∀ w, (Instr.index 237 (.agg #[.func (.func 171) #[.agg #[.string a, .string b]] #[], .func (.func 172) #[.agg #[.string a, .string b]] #[], .func (.func 173) #[.agg #[.string a, .string b]] #[], .func (.func 174) #[.agg #[.string a, .string b]] #[]]) (.int .i64 3)).run Tryz.prog w = .ok (.func (.func 174) #[.agg #[.string a, .string b]] #[]) w := fun _ => by kernel_rfl
 have hmk0 := fun w => run_makeSlice (P := Tryz.prog) w 187 184 i184 (.agg #[.int .i64 0, .int .i64 0, .string ByteArray.empty, .string ByteArray.empty]) Tryz.underlying187 hi hz0 .i64 .i64 0 4 (by omega) (by omega) (by rw [hz1']; omega) (by rw [hz2']; omega) (by omega)
 go_enter Tryz.func132, Tryz.ntmps132
 have own0 := World.ownsRow_made (base := w.heap.size) (e := 184) (size := 4) ((w.alloc (.cells #[.string a, .string b] 124)).alloc (.cells #[.func (.func 171) #[.agg #[.string a, .string b]] #[], .func (.func 172) #[.agg #[.string a, .string b]] #[], .func (.func 173) #[.agg #[.string a, .string b]] #[], .func (.func 174) #[.agg #[.string a, .string b]] #[]] 237)) (madeCells #[.int .i64 0, .int .i64 0, .string ByteArray.empty, .string ByteArray.empty] 16) 4 (by simp only [World.size_alloc]; omega) (by unfold maxLen; omega) (by rw [size_madeCells])
 simp only [World.size_alloc] at own0
 have hB0 : Below w.heap.size w (((w.alloc (.cells #[.string a, .string b] 124)).alloc (.cells #[.func (.func 171) #[.agg #[.string a, .string b]] #[], .func (.func 172) #[.agg #[.string a, .string b]] #[], .func (.func 173) #[.agg #[.string a, .string b]] #[], .func (.func 174) #[.agg #[.string a, .string b]] #[]] 237)).alloc (.cells (madeCells #[.int .i64 0, .int .i64 0, .string ByteArray.empty, .string ByteArray.empty] 16) 184)) := (((Below.refl _ w).alloc (Nat.le_refl _) _).alloc (by simp only [World.size_alloc]; omega) _).alloc (by simp only [World.size_alloc]; omega) _
 go_wp2_with fail
 generalize (((w.alloc (.cells #[.string a, .string b] 124)).alloc (.cells #[.func (.func 171) #[.agg #[.string a, .string b]] #[], .func (.func 172) #[.agg #[.string a, .string b]] #[], .func (.func 173) #[.agg #[.string a, .string b]] #[], .func (.func 174) #[.agg #[.string a, .string b]] #[]] 237)).alloc (.cells (madeCells #[.int .i64 0, .int .i64 0, .string ByteArray.empty, .string ByteArray.empty] 16) 184)) = W0 at *
 go_loopg [4, 20] 4 (fun g v i wr => ∃ (k : Nat) (ms : List MV) (v0 : Value), g = 4 - k ∧ k ≤ 4 ∧ v = v0 ∧ i = .int .i64 k ∧ Hid (ms = movesP k a b) ∧ wr.ownsRow w.heap.size 184 4 v0 ms.length (ms.flatMap MV.cells) ∧ Below w.heap.size w wr)
 case atStart => exact ⟨0, [], _, rfl, Nat.zero_le _, rfl, rfl, Lib.hid rfl, own0, hB0⟩
 case round =>
  clear own0 hB0 hmk0
  obtain ⟨k, ms, v0, hg, hk, rfl, rfl, HP, hown, hB⟩ := hrel
  obtain ⟨va, vc, rfl⟩ := own_slice hown
  have HG := Lib.hid hg; clear hg
  have hml : ms.length ≤ 4 := by rw [HP.out]; exact Nat.le_trans (movesP_len k a b) hk
  by_cases hlt : k < 4
  ·rcases (show k = 0 ∨ k = 1 ∨ k = 2 ∨ k = 3 by omega) with h | h | h | h
   ·obtain rfl : k = 0 := by omega
    have hmc := fun wx => mv0_any a b wx
    have hms := movesP_succ 0 a b
    cases ho : mvO 0 a b with
    | none =>
     simp only [ho] at hmc hms
     have HMC := Lib.hid hmc; have HMS := Lib.hid hms; clear hmc hms ho
     have HMC2 : Hid (∀ wx : World, Calls Tryz.prog 171 #[.agg #[.string a, .string b]] wx fun e w' => e = .returned (.tuple #[.agg #[.int .i64 0, .int .i64 0, .string ⟨#[]⟩, .string ⟨#[]⟩], .bool false]) ∧ Below wx.heap.size wx w') := Lib.hid fun wx => HMC.out wx
     go_wp2_with (go_at_call 171; refine (HMC2.out _).mono ?_; rintro e w1 ⟨rfl, hb⟩; replace hown := ownsRow_below' hown hb; replace hB := hB.trans (hb.mono hB.size); clear hb)
     replace hown := hown.alloc (.cells #[.int .i64 0, .int .i64 0, .string ⟨#[]⟩, .string ⟨#[]⟩] 184)
     replace hB := hB.alloc hB.size (.cells #[.int .i64 0, .int .i64 0, .string ⟨#[]⟩, .string ⟨#[]⟩] 184)
     go_roundg 3
     case measure => rw [HG.out]; omega
     case rel => exact ⟨1, ms, _, rfl, by omega, rfl, rfl, Lib.hid (by rw [HMS.out, ← HP.out]; simp), hown, hB⟩
    | some m =>
     obtain ⟨kd, wd, o1, o2⟩ := m
     simp only [ho] at hmc hms
     have HMC := Lib.hid hmc; have HMS := Lib.hid hms; clear hmc hms ho
     have HMC2 : Hid (∀ wx : World, Calls Tryz.prog 171 #[.agg #[.string a, .string b]] wx fun e w' => e = .returned (.tuple #[.agg #[.int .i64 kd, .int .i64 (wd.toNat : Int), .string o1, .string o2], .bool true]) ∧ Below wx.heap.size wx w') := Lib.hid fun wx => HMC.out wx
     obtain ⟨ys, hys⟩ : ∃ ys, ys = ms.flatMap MV.cells := ⟨_, rfl⟩
     rw [← hys] at hown
     have HYS := Lib.hid hys; clear hys
     go_wp2_with (first
       | (go_at_call 171; refine (HMC2.out _).mono ?_; rintro e w1 ⟨rfl, hb⟩; replace hown := ownsRow_below' hown hb; replace hB := hB.trans (hb.mono hB.size); clear hb; replace hown := hown.alloc (.cells #[.int .i64 kd, .int .i64 (wd.toNat : Int), .string o1, .string o2] 184); replace hB := hB.alloc hB.size (.cells #[.int .i64 kd, .int .i64 (wd.toNat : Int), .string o1, .string o2] 184))
       | (at_builtin; refine wpList_append_any _ rfl _ _ 187 rfl w.heap.size 184 i184 (.agg #[.int .i64 0, .int .i64 0, .string ByteArray.empty, .string ByteArray.empty]) 4 48 Tryz.underlying187 hi hz0 hz1' hz2' rfl (by decide) (.slice va ms.length vc) ms.length ys rfl (hown.alloc _) (w1.heap.size + 1 + 1) (some ⟨w1.heap.size + 1, 0, none⟩) 1 1 [.int .i64 kd, .int .i64 (wd.toNat : Int), .string o1, .string o2] rfl (Rd.blkN (cs := #[.int .i64 kd, .int .i64 (wd.toNat : Int), .string o1, .string o2]) (blk2 w1 _ 184 _) rfl (Nat.lt_succ_self _)).reads (by simp [Value.oneCell']) (by unfold maxLen; omega) (by omega) (by have := hB.size; simp only [World.size_alloc] at this ⊢; omega) (fun v' w' hown' hgrow hob => ?_)))
     have hB2 := (hB.alloc hB.size (.cells #[.int .i64 kd, .int .i64 (wd.toNat : Int), .string o1, .string o2] 184)).grown hgrow (by have := hB.size; simp only [World.size_alloc] at this ⊢; omega) (fun g hg => ((hown.alloc (.cells #[.int .i64 kd, .int .i64 (wd.toNat : Int), .string o1, .string o2] 184)).lt g hg).1)
     go_roundg 3
     case measure => rw [HG.out]; omega
     case rel => exact ⟨1, ms ++ [⟨kd, wd, o1, o2⟩], v', rfl, by omega, rfl, rfl, Lib.hid (by rw [HMS.out, ← HP.out]; rfl), by rw [List.length_append, List.flatMap_append, ← HYS.out]; exact hown', hB2⟩
   ·obtain rfl : k = 1 := by omega
    have hmc := fun wx => mv1_any a b wx
    have hms := movesP_succ 1 a b
    cases ho : mvO 1 a b with
    | none =>
     simp only [ho] at hmc hms
     have HMC := Lib.hid hmc; have HMS := Lib.hid hms; clear hmc hms ho
     have HMC2 : Hid (∀ wx : World, Calls Tryz.prog 172 #[.agg #[.string a, .string b]] wx fun e w' => e = .returned (.tuple #[.agg #[.int .i64 0, .int .i64 0, .string ⟨#[]⟩, .string ⟨#[]⟩], .bool false]) ∧ Below wx.heap.size wx w') := Lib.hid fun wx => HMC.out wx
     go_wp2_with (go_at_call 172; refine (HMC2.out _).mono ?_; rintro e w1 ⟨rfl, hb⟩; replace hown := ownsRow_below' hown hb; replace hB := hB.trans (hb.mono hB.size); clear hb)
     replace hown := hown.alloc (.cells #[.int .i64 0, .int .i64 0, .string ⟨#[]⟩, .string ⟨#[]⟩] 184)
     replace hB := hB.alloc hB.size (.cells #[.int .i64 0, .int .i64 0, .string ⟨#[]⟩, .string ⟨#[]⟩] 184)
     go_roundg 2
     case measure => rw [HG.out]; omega
     case rel => exact ⟨2, ms, _, rfl, by omega, rfl, rfl, Lib.hid (by rw [HMS.out, ← HP.out]; simp), hown, hB⟩
    | some m =>
     obtain ⟨kd, wd, o1, o2⟩ := m
     simp only [ho] at hmc hms
     have HMC := Lib.hid hmc; have HMS := Lib.hid hms; clear hmc hms ho
     have HMC2 : Hid (∀ wx : World, Calls Tryz.prog 172 #[.agg #[.string a, .string b]] wx fun e w' => e = .returned (.tuple #[.agg #[.int .i64 kd, .int .i64 (wd.toNat : Int), .string o1, .string o2], .bool true]) ∧ Below wx.heap.size wx w') := Lib.hid fun wx => HMC.out wx
     obtain ⟨ys, hys⟩ : ∃ ys, ys = ms.flatMap MV.cells := ⟨_, rfl⟩
     rw [← hys] at hown
     have HYS := Lib.hid hys; clear hys
     go_wp2_with (first
       | (go_at_call 172; refine (HMC2.out _).mono ?_; rintro e w1 ⟨rfl, hb⟩; replace hown := ownsRow_below' hown hb; replace hB := hB.trans (hb.mono hB.size); clear hb; replace hown := hown.alloc (.cells #[.int .i64 kd, .int .i64 (wd.toNat : Int), .string o1, .string o2] 184); replace hB := hB.alloc hB.size (.cells #[.int .i64 kd, .int .i64 (wd.toNat : Int), .string o1, .string o2] 184))
       | (at_builtin; refine wpList_append_any _ rfl _ _ 187 rfl w.heap.size 184 i184 (.agg #[.int .i64 0, .int .i64 0, .string ByteArray.empty, .string ByteArray.empty]) 4 48 Tryz.underlying187 hi hz0 hz1' hz2' rfl (by decide) (.slice va ms.length vc) ms.length ys rfl (hown.alloc _) (w1.heap.size + 1 + 1) (some ⟨w1.heap.size + 1, 0, none⟩) 1 1 [.int .i64 kd, .int .i64 (wd.toNat : Int), .string o1, .string o2] rfl (Rd.blkN (cs := #[.int .i64 kd, .int .i64 (wd.toNat : Int), .string o1, .string o2]) (blk2 w1 _ 184 _) rfl (Nat.lt_succ_self _)).reads (by simp [Value.oneCell']) (by unfold maxLen; omega) (by omega) (by have := hB.size; simp only [World.size_alloc] at this ⊢; omega) (fun v' w' hown' hgrow hob => ?_)))
     have hB2 := (hB.alloc hB.size (.cells #[.int .i64 kd, .int .i64 (wd.toNat : Int), .string o1, .string o2] 184)).grown hgrow (by have := hB.size; simp only [World.size_alloc] at this ⊢; omega) (fun g hg => ((hown.alloc (.cells #[.int .i64 kd, .int .i64 (wd.toNat : Int), .string o1, .string o2] 184)).lt g hg).1)
     go_roundg 2
     case measure => rw [HG.out]; omega
     case rel => exact ⟨2, ms ++ [⟨kd, wd, o1, o2⟩], v', rfl, by omega, rfl, rfl, Lib.hid (by rw [HMS.out, ← HP.out]; rfl), by rw [List.length_append, List.flatMap_append, ← HYS.out]; exact hown', hB2⟩
   ·obtain rfl : k = 2 := by omega
    have hmc := fun wx => mv2_any a b wx
    have hms := movesP_succ 2 a b
    cases ho : mvO 2 a b with
    | none =>
     simp only [ho] at hmc hms
     have HMC := Lib.hid hmc; have HMS := Lib.hid hms; clear hmc hms ho
     have HMC2 : Hid (∀ wx : World, Calls Tryz.prog 173 #[.agg #[.string a, .string b]] wx fun e w' => e = .returned (.tuple #[.agg #[.int .i64 0, .int .i64 0, .string ⟨#[]⟩, .string ⟨#[]⟩], .bool false]) ∧ Below wx.heap.size wx w') := Lib.hid fun wx => HMC.out wx
     go_wp2_with (go_at_call 173; refine (HMC2.out _).mono ?_; rintro e w1 ⟨rfl, hb⟩; replace hown := ownsRow_below' hown hb; replace hB := hB.trans (hb.mono hB.size); clear hb)
     replace hown := hown.alloc (.cells #[.int .i64 0, .int .i64 0, .string ⟨#[]⟩, .string ⟨#[]⟩] 184)
     replace hB := hB.alloc hB.size (.cells #[.int .i64 0, .int .i64 0, .string ⟨#[]⟩, .string ⟨#[]⟩] 184)
     go_roundg 1
     case measure => rw [HG.out]; omega
     case rel => exact ⟨3, ms, _, rfl, by omega, rfl, rfl, Lib.hid (by rw [HMS.out, ← HP.out]; simp), hown, hB⟩
    | some m =>
     obtain ⟨kd, wd, o1, o2⟩ := m
     simp only [ho] at hmc hms
     have HMC := Lib.hid hmc; have HMS := Lib.hid hms; clear hmc hms ho
     have HMC2 : Hid (∀ wx : World, Calls Tryz.prog 173 #[.agg #[.string a, .string b]] wx fun e w' => e = .returned (.tuple #[.agg #[.int .i64 kd, .int .i64 (wd.toNat : Int), .string o1, .string o2], .bool true]) ∧ Below wx.heap.size wx w') := Lib.hid fun wx => HMC.out wx
     obtain ⟨ys, hys⟩ : ∃ ys, ys = ms.flatMap MV.cells := ⟨_, rfl⟩
     rw [← hys] at hown
     have HYS := Lib.hid hys; clear hys
     go_wp2_with (first
       | (go_at_call 173; refine (HMC2.out _).mono ?_; rintro e w1 ⟨rfl, hb⟩; replace hown := ownsRow_below' hown hb; replace hB := hB.trans (hb.mono hB.size); clear hb; replace hown := hown.alloc (.cells #[.int .i64 kd, .int .i64 (wd.toNat : Int), .string o1, .string o2] 184); replace hB := hB.alloc hB.size (.cells #[.int .i64 kd, .int .i64 (wd.toNat : Int), .string o1, .string o2] 184))
       | (at_builtin; refine wpList_append_any _ rfl _ _ 187 rfl w.heap.size 184 i184 (.agg #[.int .i64 0, .int .i64 0, .string ByteArray.empty, .string ByteArray.empty]) 4 48 Tryz.underlying187 hi hz0 hz1' hz2' rfl (by decide) (.slice va ms.length vc) ms.length ys rfl (hown.alloc _) (w1.heap.size + 1 + 1) (some ⟨w1.heap.size + 1, 0, none⟩) 1 1 [.int .i64 kd, .int .i64 (wd.toNat : Int), .string o1, .string o2] rfl (Rd.blkN (cs := #[.int .i64 kd, .int .i64 (wd.toNat : Int), .string o1, .string o2]) (blk2 w1 _ 184 _) rfl (Nat.lt_succ_self _)).reads (by simp [Value.oneCell']) (by unfold maxLen; omega) (by omega) (by have := hB.size; simp only [World.size_alloc] at this ⊢; omega) (fun v' w' hown' hgrow hob => ?_)))
     have hB2 := (hB.alloc hB.size (.cells #[.int .i64 kd, .int .i64 (wd.toNat : Int), .string o1, .string o2] 184)).grown hgrow (by have := hB.size; simp only [World.size_alloc] at this ⊢; omega) (fun g hg => ((hown.alloc (.cells #[.int .i64 kd, .int .i64 (wd.toNat : Int), .string o1, .string o2] 184)).lt g hg).1)
     go_roundg 1
     case measure => rw [HG.out]; omega
     case rel => exact ⟨3, ms ++ [⟨kd, wd, o1, o2⟩], v', rfl, by omega, rfl, rfl, Lib.hid (by rw [HMS.out, ← HP.out]; rfl), by rw [List.length_append, List.flatMap_append, ← HYS.out]; exact hown', hB2⟩
   ·obtain rfl : k = 3 := by omega
    have hmc := fun wx => mv3_any a b wx
    have hms := movesP_succ 3 a b
    cases ho : mvO 3 a b with
    | none =>
     simp only [ho] at hmc hms
     have HMC := Lib.hid hmc; have HMS := Lib.hid hms; clear hmc hms ho
     have HMC2 : Hid (∀ wx : World, Calls Tryz.prog 174 #[.agg #[.string a, .string b]] wx fun e w' => e = .returned (.tuple #[.agg #[.int .i64 0, .int .i64 0, .string ⟨#[]⟩, .string ⟨#[]⟩], .bool false]) ∧ Below wx.heap.size wx w') := Lib.hid fun wx => HMC.out wx
     go_wp2_with (go_at_call 174; refine (HMC2.out _).mono ?_; rintro e w1 ⟨rfl, hb⟩; replace hown := ownsRow_below' hown hb; replace hB := hB.trans (hb.mono hB.size); clear hb)
     replace hown := hown.alloc (.cells #[.int .i64 0, .int .i64 0, .string ⟨#[]⟩, .string ⟨#[]⟩] 184)
     replace hB := hB.alloc hB.size (.cells #[.int .i64 0, .int .i64 0, .string ⟨#[]⟩, .string ⟨#[]⟩] 184)
     go_roundg 0
     case measure => rw [HG.out]; omega
     case rel => exact ⟨4, ms, _, rfl, by omega, rfl, rfl, Lib.hid (by rw [HMS.out, ← HP.out]; simp), hown, hB⟩
    | some m =>
     obtain ⟨kd, wd, o1, o2⟩ := m
     simp only [ho] at hmc hms
     have HMC := Lib.hid hmc; have HMS := Lib.hid hms; clear hmc hms ho
     have HMC2 : Hid (∀ wx : World, Calls Tryz.prog 174 #[.agg #[.string a, .string b]] wx fun e w' => e = .returned (.tuple #[.agg #[.int .i64 kd, .int .i64 (wd.toNat : Int), .string o1, .string o2], .bool true]) ∧ Below wx.heap.size wx w') := Lib.hid fun wx => HMC.out wx
     obtain ⟨ys, hys⟩ : ∃ ys, ys = ms.flatMap MV.cells := ⟨_, rfl⟩
     rw [← hys] at hown
     have HYS := Lib.hid hys; clear hys
     go_wp2_with (first
       | (go_at_call 174; refine (HMC2.out _).mono ?_; rintro e w1 ⟨rfl, hb⟩; replace hown := ownsRow_below' hown hb; replace hB := hB.trans (hb.mono hB.size); clear hb; replace hown := hown.alloc (.cells #[.int .i64 kd, .int .i64 (wd.toNat : Int), .string o1, .string o2] 184); replace hB := hB.alloc hB.size (.cells #[.int .i64 kd, .int .i64 (wd.toNat : Int), .string o1, .string o2] 184))
       | (at_builtin; refine wpList_append_any _ rfl _ _ 187 rfl w.heap.size 184 i184 (.agg #[.int .i64 0, .int .i64 0, .string ByteArray.empty, .string ByteArray.empty]) 4 48 Tryz.underlying187 hi hz0 hz1' hz2' rfl (by decide) (.slice va ms.length vc) ms.length ys rfl (hown.alloc _) (w1.heap.size + 1 + 1) (some ⟨w1.heap.size + 1, 0, none⟩) 1 1 [.int .i64 kd, .int .i64 (wd.toNat : Int), .string o1, .string o2] rfl (Rd.blkN (cs := #[.int .i64 kd, .int .i64 (wd.toNat : Int), .string o1, .string o2]) (blk2 w1 _ 184 _) rfl (Nat.lt_succ_self _)).reads (by simp [Value.oneCell']) (by unfold maxLen; omega) (by omega) (by have := hB.size; simp only [World.size_alloc] at this ⊢; omega) (fun v' w' hown' hgrow hob => ?_)))
     have hB2 := (hB.alloc hB.size (.cells #[.int .i64 kd, .int .i64 (wd.toNat : Int), .string o1, .string o2] 184)).grown hgrow (by have := hB.size; simp only [World.size_alloc] at this ⊢; omega) (fun g hg => ((hown.alloc (.cells #[.int .i64 kd, .int .i64 (wd.toNat : Int), .string o1, .string o2] 184)).lt g hg).1)
     go_roundg 0
     case measure => rw [HG.out]; omega
     case rel => exact ⟨4, ms ++ [⟨kd, wd, o1, o2⟩], v', rfl, by omega, rfl, rfl, Lib.hid (by rw [HMS.out, ← HP.out]; rfl), by rw [List.length_append, List.flatMap_append, ← HYS.out]; exact hown', hB2⟩
  ·obtain rfl : k = 4 := by omega
   go_wp2_with fail
   go_ret
   exact ⟨_, rfl, by rw [← HP.out]; exact hown, hB⟩
end
section
section
variable {α : Type} [DecidableEq α]
def edIn (x : α) (n : Nat) (f : List α → Nat) : List α → Nat
 | [] => n + 1
 | y :: ys => if x = y then f ys else 1 + min (f ys) (min (f (y :: ys)) (edIn x n f ys))
def ed : List α → List α → Nat
 | [] => List.length
 | x :: xs => edIn x xs.length (ed xs)
theorem ed_nil (b : List α) : ed [] b = b.length := rfl
theorem ed_nil_r : ∀ a : List α, ed a [] = a.length
 | [] => rfl
 | _ :: _ => rfl
theorem ed_cons (x y : α) (xs ys : List α) : ed (x :: xs) (y :: ys) = if x = y then ed xs ys else 1 + min (ed xs ys) (min (ed xs (y :: ys)) (ed (x :: xs) ys)) := rfl
end
inductive Scr {α : Type} : List α → List α → Nat → Prop
 | nil : Scr [] [] 0
 | keep (x : α) {a b : List α} {n : Nat} : Scr a b n → Scr (x :: a) (x :: b) n
 | change (x y : α) {a b : List α} {n : Nat} : Scr a b n → Scr (x :: a) (y :: b) (n + 1)
 | add (y : α) {a b : List α} {n : Nat} : Scr a b n → Scr a (y :: b) (n + 1)
 | drop (x : α) {a b : List α} {n : Nat} : Scr a b n → Scr (x :: a) b (n + 1)
theorem scr_adds {α : Type} : ∀ b : List α, Scr [] b b.length
 | [] => .nil
 | y :: ys => .add y (scr_adds ys)
theorem scr_drops {α : Type} : ∀ a : List α, Scr a [] a.length
 | [] => .nil
 | x :: xs => .drop x (scr_drops xs)
theorem scr_refl {α : Type} : ∀ a : List α, Scr a a 0
 | [] => .nil
 | x :: xs => .keep x (scr_refl xs)
theorem ed_scr {α : Type} [DecidableEq α] : ∀ (a b : List α), Scr a b (ed a b)
 | [], b => scr_adds b
 | x :: xs, b => by
  have ih := ed_scr xs
  induction b with
  | nil => exact scr_drops (x :: xs)
  | cons y ys ihb =>
   rw [ed_cons]
   split
   ·rename_i h; subst h; exact .keep x (ih ys)
   ·have h1 := ih ys
    have h2 := ih (y :: ys)
    rcases (show min (ed xs ys) (min (ed xs (y :: ys)) (ed (x :: xs) ys)) = ed xs ys ∨ min (ed xs ys) (min (ed xs (y :: ys)) (ed (x :: xs) ys)) = ed xs (y :: ys) ∨ min (ed xs ys) (min (ed xs (y :: ys)) (ed (x :: xs) ys)) = ed (x :: xs) ys by omega) with e | e | e <;> rw [e, Nat.add_comm]
    ·exact .change x y h1
    ·exact .drop x h2
    ·exact .add y ihb
theorem scr_comp {α : Type} (k : Nat) : ∀ {a b c : List α} {m n : Nat}, a.length + b.length + c.length < k → Scr a b m → Scr b c n → ∃ l, l ≤ m + n ∧ Scr a c l := by
 induction k with
 | zero => intro a b c m n hk; omega
 | succ k ih =>
  intro a b c m n hk h1 h2
  cases h2 with
  | add y h2' =>
   simp only [List.length_cons] at hk
   obtain ⟨l, hl, hs⟩ := ih (by omega) h1 h2'
   exact ⟨l + 1, by omega, .add y hs⟩
  | nil =>
   cases h1 with
   | nil => exact ⟨0, by omega, .nil⟩
   | drop x h1' =>
    simp only [List.length_cons] at hk
    obtain ⟨l, hl, hs⟩ := ih (by simp only [List.length_nil] at hk ⊢; omega) h1' .nil
    exact ⟨l + 1, by omega, .drop x hs⟩
  | keep y h2' =>
   simp only [List.length_cons] at hk
   cases h1 with
   | keep _ h1' => obtain ⟨l, hl, hs⟩ := ih (by simp only [List.length_cons] at hk; omega) h1' h2'; exact ⟨l, by omega, .keep y hs⟩
   | change x _ h1' => obtain ⟨l, hl, hs⟩ := ih (by simp only [List.length_cons] at hk; omega) h1' h2'; exact ⟨l + 1, by omega, .change x y hs⟩
   | add _ h1' => obtain ⟨l, hl, hs⟩ := ih (by omega) h1' h2'; exact ⟨l + 1, by omega, .add y hs⟩
   | drop x h1' => obtain ⟨l, hl, hs⟩ := ih (by simp only [List.length_cons] at hk ⊢; omega) h1' (.keep y h2'); exact ⟨l + 1, by omega, .drop x hs⟩
  | change y z h2' =>
   simp only [List.length_cons] at hk
   cases h1 with
   | keep _ h1' => obtain ⟨l, hl, hs⟩ := ih (by simp only [List.length_cons] at hk; omega) h1' h2'; exact ⟨l + 1, by omega, .change y z hs⟩
   | change x _ h1' => obtain ⟨l, hl, hs⟩ := ih (by simp only [List.length_cons] at hk; omega) h1' h2'; exact ⟨l + 1, by omega, .change x z hs⟩
   | add _ h1' => obtain ⟨l, hl, hs⟩ := ih (by omega) h1' h2'; exact ⟨l + 1, by omega, .add z hs⟩
   | drop x h1' => obtain ⟨l, hl, hs⟩ := ih (by simp only [List.length_cons] at hk ⊢; omega) h1' (.change y z h2'); exact ⟨l + 1, by omega, .drop x hs⟩
  | drop y h2' =>
   simp only [List.length_cons] at hk
   cases h1 with
   | keep _ h1' => obtain ⟨l, hl, hs⟩ := ih (by simp only [List.length_cons] at hk; omega) h1' h2'; exact ⟨l + 1, by omega, .drop y hs⟩
   | change x _ h1' => obtain ⟨l, hl, hs⟩ := ih (by simp only [List.length_cons] at hk; omega) h1' h2'; exact ⟨l + 1, by omega, .drop x hs⟩
   | add _ h1' => obtain ⟨l, hl, hs⟩ := ih (by omega) h1' h2'; exact ⟨l, by omega, hs⟩
   | drop x h1' => obtain ⟨l, hl, hs⟩ := ih (by simp only [List.length_cons] at hk ⊢; omega) h1' (.drop y h2'); exact ⟨l + 1, by omega, .drop x hs⟩
theorem scr_undrop {α : Type} {x : α} {xs b : List α} {n : Nat} (h : Scr (x :: xs) b n) : ∃ l, l ≤ n + 1 ∧ Scr xs b l := by
 obtain ⟨l, hl, hs⟩ := scr_comp _ (Nat.lt_succ_self _) (Scr.add x (scr_refl xs)) h
 exact ⟨l, by omega, hs⟩
theorem scr_unadd {α : Type} {y : α} {a ys : List α} {n : Nat} (h : Scr a (y :: ys) n) : ∃ l, l ≤ n + 1 ∧ Scr a ys l := by
 obtain ⟨l, hl, hs⟩ := scr_comp _ (Nat.lt_succ_self _) h (Scr.drop y (scr_refl ys))
 exact ⟨l, by omega, hs⟩
theorem scr_len {α : Type} {a b : List α} {n : Nat} (h : Scr a b n) : a.length ≤ b.length + n ∧ b.length ≤ a.length + n := by
 induction h <;> simp only [List.length_cons, List.length_nil] at * <;> omega
theorem scr_ed {α : Type} [DecidableEq α] : ∀ (a b : List α) {n : Nat}, Scr a b n → ed a b ≤ n
 | [], b, n, h => by have := (scr_len h).2; rw [ed_nil]; simpa using this
 | x :: xs, b, n, h => by
  have ih := fun b {n} h => scr_ed xs b (n := n) h
  induction b generalizing n with
  | nil => have := (scr_len h).1; rw [ed_nil_r]; simpa using this
  | cons y ys ihb =>
   rw [ed_cons]
   split
   ·rename_i e
    subst e
    cases h with
    | keep _ h' => exact ih ys h'
    | change _ _ h' => have := ih ys h'; omega
    | add _ h' => obtain ⟨l, hl, hs⟩ := scr_undrop h'; have := ih ys hs; omega
    | drop _ h' => obtain ⟨l, hl, hs⟩ := scr_unadd h'; have := ih ys hs; omega
   ·rename_i e
    cases h with
    | keep _ h' => exact absurd rfl e
    | change _ _ h' => have := ih ys h'; omega
    | add _ h' => have := ihb (n := _) h'; omega
    | drop _ h' => have := ih (y :: ys) h'; omega
theorem ed_drop {α : Type} [DecidableEq α] (x : α) (xs b : List α) : ed xs b ≤ ed (x :: xs) b + 1 ∧ ed (x :: xs) b ≤ ed xs b + 1 := by
 obtain ⟨l, hl, hs⟩ := scr_undrop (ed_scr (x :: xs) b)
 exact ⟨Nat.le_trans (scr_ed _ _ hs) hl, scr_ed _ _ (.drop x (ed_scr xs b))⟩
theorem ed_add {α : Type} [DecidableEq α] (a : List α) (y : α) (ys : List α) : ed a ys ≤ ed a (y :: ys) + 1 ∧ ed a (y :: ys) ≤ ed a ys + 1 := by
 obtain ⟨l, hl, hs⟩ := scr_unadd (ed_scr a (y :: ys))
 exact ⟨Nat.le_trans (scr_ed _ _ hs) hl, scr_ed _ _ (.add y (ed_scr a ys))⟩
section
variable {α : Type} [DecidableEq α]
theorem ed_le : ∀ (a b : List α), ed a b ≤ max a.length b.length
 | [], b => by rw [ed_nil]; simp
 | x :: xs, [] => by rw [ed_nil_r]; simp
 | x :: xs, y :: ys => by
  have ih := ed_le xs ys
  rw [ed_cons]
  simp only [List.length_cons]
  split <;> omega
theorem ed_moves (x y : α) (xs ys : List α) : ed (x :: xs) (y :: ys) = min (if x = y then ed xs ys else 1 + ed xs ys) (min (1 + ed (x :: xs) ys) (1 + ed xs (y :: ys))) := by
 rw [ed_cons]
 have h1 := ed_drop x xs ys
 have h2 := ed_add xs y ys
 split <;> omega
end
end
section
open Go.RowKit Go.Lib Go.Maps
theorem laidOutP : laidOutB Tryz.prog = true := by kernel_rfl
theorem row124 : (124 : TypeId) < Tryz.prog.types.size := of_decide_eq_true (by kernel_rfl)
theorem law124 : Keyed Tryz.prog 124 := Keyed.of_law (deep_law_laid laidOutP (m := 2) (by omega) row124 (by kernel_rfl) (by rw [Tryz.underlying124]))
theorem zero3 (w : World) : (zeroValue 3).run Tryz.prog w = .ok (.int .i64 0) w := by kernel_rfl
theorem cells121 : Tryz.prog.cellsOf 121 = 1 := by kernel_rfl
theorem cells124 : Tryz.prog.cellsOf 124 = 2 := by kernel_rfl
theorem keyLits124 (d : Nat) (p q : ByteArray) (hp : p.size ≤ maxLen) (hq : q.size ≤ maxLen) : Tryz.prog.keyLits (d + 2) 124 [.string p, .string q] = some [.string p.data.toList, .string q.data.toList] := by
 simp [Program.keyLits, Tryz.underlying124, Tryz.underlying121, cells121, cells124, hp, hq]
theorem key124 (p q : ByteArray) (hp : p.size ≤ maxLen) (hq : q.size ≤ maxLen) : ∃ kl, keyOf Tryz.prog 124 (.agg #[.string p, .string q]) = some kl := by
 have h1 : Tryz.prog.keyType 124 = true := by kernel_rfl
 have h2 : (Value.agg #[.string p, .string q]).formed Tryz.prog 124 = true := by kernel_rfl
 obtain ⟨d, hd⟩ : ∃ d, Tryz.prog.types.size = d + 1 := ⟨Tryz.prog.types.size - 1, by have : 1 ≤ Tryz.prog.types.size := Nat.lt_of_le_of_lt (Nat.zero_le _) row124; omega⟩
 unfold keyOf
 rw [Tryz.underlying124]
 simp only [h1, h2, Bool.and_self, if_true]
 rw [hd, show (Value.agg #[.string p, .string q]).cells.toList = [.string p, .string q] from rfl, keyLits124 d p q hp hq]
 exact ⟨_, rfl⟩
def edB (p q : ByteArray) : Nat := ed p.data.toList q.data.toList
def Memo (w : World) (b n : Nat) : Prop := ∃ D : DataW Unit, w.ownsMap Tryz.prog 124 (plainElem Tryz.prog 3) b n D ∧
 ∀ (p q : ByteArray) (kl : Lit), keyOf Tryz.prog 124 (.agg #[.string p, .string q]) = some kl → Maps.has D kl = true → D.atKey kl (.lit (.int .i64 0)) = .lit (.int .i64 (edB p q))
theorem Memo.made (w : World) : Memo (w.alloc (.map #[] 0)) w.heap.size 0 := ⟨_, World.ownsMap_made _ _ _ _, fun _ _ _ _ h => by simp [Maps.has] at h⟩
theorem Memo.mono {w : World} {b n m : Nat} (h : Memo w b n) (hm : n ≤ m) : Memo w b m := by
 obtain ⟨D, h1, h2⟩ := h
 exact ⟨D, h1.mono hm, h2⟩
theorem Memo.lt {w : World} {b n : Nat} (h : Memo w b n) : b < w.heap.size := by
 obtain ⟨D, h1, _⟩ := h
 exact h1.lt
theorem Memo.kept {w w' : World} {b n : Nat} {row : Option Nat} (h : Memo w b n) (hg : w.grownBy w' row) (hne : some b ≠ row) : Memo w' b n := by
 obtain ⟨D, h1, h2⟩ := h
 exact ⟨D, h1.kept hg hne, h2⟩
theorem Memo.alloc {w : World} {b n : Nat} (h : Memo w b n) (o : Obj) : Memo (w.alloc o) b n := by
 obtain ⟨D, h1, h2⟩ := h
 exact ⟨D, h1.alloc o, h2⟩
theorem Memo.below {w w' : World} {b n : Nat} (h : Memo w b n) (hb : Below w.heap.size w w') : Memo w' b n :=
 h.kept (row := none) ⟨hb.os, hb.tape, hb.output, hb.size, fun g hg _ => hb.block g hg⟩ (by simp)
theorem Memo.put {w w' : World} {b n : Nat} {D : DataW Unit} {p q : ByteArray} {kl : Lit} (h : w.ownsMap Tryz.prog 124 (plainElem Tryz.prog 3) b n D)
  (h2 : ∀ (p q : ByteArray) (kl : Lit), keyOf Tryz.prog 124 (.agg #[.string p, .string q]) = some kl → Maps.has D kl = true → D.atKey kl (.lit (.int .i64 0)) = .lit (.int .i64 (edB p q)))
  (hk : keyOf Tryz.prog 124 (.agg #[.string p, .string q]) = some kl) (h' : w'.ownsMap Tryz.prog 124 (plainElem Tryz.prog 3) b (n + 1) (D.put kl (.lit (.int .i64 (edB p q))))) : Memo w' b (n + 1) := by
 refine ⟨_, h', fun p' q' kl' hk' hh => ?_⟩
 by_cases e : kl' = kl
 ·subst e
  have := law124.inj hk hk'
  simp only [Value.agg.injEq, Array.mk.injEq, List.cons.injEq, Value.string.injEq, and_true] at this
  obtain ⟨rfl, rfl⟩ := this
  exact atKey_put_same h.isMap (law124.key hk) _ _
 ·rw [atKey_put_other e]
  rw [has_put_other e] at hh
  exact h2 p' q' kl' hk' hh
end
section
open Go.RowKit Go.Lib Go.Maps
structure GB (B b : Nat) (w w' : World) : Prop where
 os : w'.os = w.os
 tape : w'.tape = w.tape
 output : w'.output = w.output
 size : w.heap.size ≤ w'.heap.size
 block : ∀ k, k < B → k ≠ b → w'.heap[k]? = w.heap[k]?
theorem GB.refl (B b : Nat) (w : World) : GB B b w w := ⟨rfl, rfl, rfl, Nat.le_refl _, fun _ _ _ => rfl⟩
theorem GB.trans {B b : Nat} {x y z : World} (h : GB B b x y) (k : GB B b y z) : GB B b x z :=
 ⟨k.os.trans h.os, k.tape.trans h.tape, k.output.trans h.output, Nat.le_trans h.size k.size, fun i hi hn => (k.block i hi hn).trans (h.block i hi hn)⟩
theorem GB.mono {B B' b : Nat} {w w' : World} (h : GB B b w w') (hB : B' ≤ B) : GB B' b w w' := ⟨h.os, h.tape, h.output, h.size, fun k hk => h.block k (Nat.lt_of_lt_of_le hk hB)⟩
theorem GB.drew {B b : Nat} {a w : World} (h : GB B b a w) : GB B b a w.drew := ⟨h.os, h.tape, h.output, h.size, h.block⟩
theorem GB.of_below {B b : Nat} {w w' : World} (h : Below B w w') : GB B b w w' := ⟨h.os, h.tape, h.output, h.size, fun k hk _ => h.block k hk⟩
theorem GB.below {B b : Nat} {w w' : World} (h : GB B b w w') {C : Nat} (hC : C ≤ b) (hB : C ≤ B) : Below C w w' := ⟨h.os, h.tape, h.output, h.size, fun k hk => h.block k (by omega) (by omega)⟩
theorem GB.alloc {B b : Nat} {a w : World} (h : GB B b a w) (hB : B ≤ w.heap.size) (o : Obj) : GB B b a (w.alloc o) := h.trans (GB.of_below ((Below.refl B w).alloc hB o))
theorem GB.setCell {B b : Nat} {a w : World} (h : GB B b a w) {p : Addr} (hp : B ≤ p.block) (u : Value) : GB B b a (w.setCell p u) := h.trans (GB.of_below ((Below.refl B w).setCell hp u))
theorem GB.put {B b : Nat} {a w w' : World} (h : GB B b a w) (hg : w.grownBy w' (some b)) (hB : B ≤ w.heap.size) : GB B b a w' :=
 h.trans ⟨hg.os, hg.tape, hg.output, hg.size, fun k hk hn => hg.block k (by omega) (fun e => hn (by injection e))⟩
theorem GB.call {B b : Nat} {a w w' : World} (h : GB B b a w) (hg : GB w.heap.size b w w') (hB : B ≤ w.heap.size) : GB B b a w' := h.trans (hg.mono hB)
theorem Blk.gb {w w' : World} {g b : Nat} {t : TypeId} {cs : Array Value} (h : Blk w g t cs) (hg : GB w.heap.size b w w') (hne : g ≠ b) : Blk w' g t cs := (hg.block g h.lt hne).trans h
theorem own_gb {w w' : World} {base b : Nat} {e : TypeId} {size n : Nat} {v : Value} {xs : List Value} (h : w.ownsRow base e size v n xs) (hg : GB w.heap.size b w w') (hb : b < base) : w'.ownsRow base e size v n xs := by
 obtain ⟨h1, h2⟩ := h
 refine ⟨h1, ?_⟩
 rcases h2 with h2 | ⟨g, cap, cur, h3, h4, h5, h6⟩
 ·exact .inl h2
 ·have hlt : g < w.heap.size := (Array.getElem?_eq_some_iff.1 h5).1
  exact .inr ⟨g, cap, cur, h3, h4, (hg.block g hlt (by omega)).trans h5, h6⟩
theorem Rd.gb {w w' : World} {B b sz n : Nat} {A : Option Addr} {xs : List Value} (h : Rd w B sz A n xs) (hg : GB w.heap.size b w w') (hb : B ≤ b) (hB : B ≤ w.heap.size) : Rd w' B sz A n xs := h.below (hg.below hb hB)
def costN (m : MV) : Nat := edB m.one m.other + (if m.kind = 1 then 0 else 1)
def CallsCost (b N K : Nat) (m : MV) : Prop := ∀ wx N', Memo wx b N' → N' + K ≤ N → Calls Tryz.prog 133 #[.map (some b), .agg #[.int .i64 m.kind, .int .i64 (m.word.toNat : Int), .string m.one, .string m.other]] wx fun e w' => e = .returned (.int .i64 (costN m)) ∧ Memo w' b (N' + K) ∧ GB wx.heap.size b wx w'
theorem cost_of (b N K : Nat) (m : MV) (hsz : edB m.one m.other ≤ 100000)
  (hc : ∀ wx N', Memo wx b N' → N' + K ≤ N → Calls Tryz.prog 83 #[.map (some b), .agg #[.string m.one, .string m.other]] wx fun e w' => e = .returned (.int .i64 (edB m.one m.other)) ∧ Memo w' b (N' + K) ∧ GB wx.heap.size b wx w') : CallsCost b N K m := by
 intro w N' hm hN
 obtain ⟨kd, wd, o1, o2⟩ := m
 have HC := Lib.hid hc; clear hc
 unfold costN
 dsimp only at HC hsz ⊢
 generalize edB o1 o2 = d at *
 have hX := Blk.new w 184 #[.int .i64 kd, .int .i64 (wd.toNat : Int), .string o1, .string o2]
 have hG : GB w.heap.size b w (w.alloc (.cells #[.int .i64 kd, .int .i64 (wd.toNat : Int), .string o1, .string o2] 184)) := (GB.refl _ _ _).alloc (Nat.le_refl _) _
 have hm0 := hm.alloc (.cells #[.int .i64 kd, .int .i64 (wd.toNat : Int), .string o1, .string o2] 184)
 have hbl := hm.lt
 by_cases hk : kd = 1
 ·subst hk
  rw [if_pos rfl]
  go_enter Tryz.func133, Tryz.ntmps133
  go_wp2_with (go_at_call 83; refine (HC.out _ N' hm0 hN).mono ?_; rintro e w1 ⟨rfl, hm1, hg⟩; replace hX := hX.gb hg (by omega); have hqX := fun i => hX.cell i; replace hG := hG.call hg hG.size; clear hg)
  go_ret
  exact ⟨rfl, hm1, hG⟩
 ·rw [if_neg hk]
  have hkb : (kd != 1) = true := by rw [bne_iff_ne]; exact hk
  have hkb2 : (kd == 1) = false := by rw [beq_eq_false_iff_ne]; exact hk
  clear hk
  go_enter Tryz.func133, Tryz.ntmps133
  go_wp2_with (go_at_call 83; refine (HC.out _ N' hm0 hN).mono ?_; rintro e w1 ⟨rfl, hm1, hg⟩; replace hX := hX.gb hg (by omega); have hqX := fun i => hX.cell i; replace hG := hG.call hg hG.size; clear hg)
  go_ret
  exact ⟨ret_int (by omega), hm1, hG⟩
end
end Go.Proofs.YtekmnelpkogppaaGreatDoor
