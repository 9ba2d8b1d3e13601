import Derived.Test.YtifddfchpknkbaaGreatDoorKn
set_option linter.unusedVariables false
set_option linter.unusedSimpArgs false
namespace Go.Proofs.YtifddfchpknkbaaGreatDoor
open Go.RowKit

theorem pro_4 (w : World) (o0 o1 o2 o3 : Obj) : Below w.heap.size w ((((w.alloc o0).alloc o1).alloc o2).alloc o3) :=
  ((((Below.refl _ w).alloc (Nat.le_refl _) _).alloc (by simp only [World.size_alloc]; omega) _).alloc (by simp only [World.size_alloc]; omega) _).alloc (by simp only [World.size_alloc]; omega) _
theorem blk4_0 (w : World) (o1 o2 o3 : Obj) (t : TypeId) (cs : Array Value) : Blk ((((w.alloc (.cells cs t)).alloc o1).alloc o2).alloc o3) (w.heap.size) t cs := by
  have := (((Blk.new (w) t cs).alloc o1).alloc o2).alloc o3
  simpa only [World.size_alloc] using this
theorem blk4_1 (w : World) (o0 o2 o3 : Obj) (t : TypeId) (cs : Array Value) : Blk ((((w.alloc o0).alloc (.cells cs t)).alloc o2).alloc o3) (w.heap.size + 1) t cs := by
  have := ((Blk.new (w.alloc o0) t cs).alloc o2).alloc o3
  simpa only [World.size_alloc] using this
theorem blk4_2 (w : World) (o0 o1 o3 : Obj) (t : TypeId) (cs : Array Value) : Blk ((((w.alloc o0).alloc o1).alloc (.cells cs t)).alloc o3) (w.heap.size + 1 + 1) t cs := by
  have := (Blk.new ((w.alloc o0).alloc o1) t cs).alloc o3
  simpa only [World.size_alloc] using this
theorem blk4_3 (w : World) (o0 o1 o2 : Obj) (t : TypeId) (cs : Array Value) : Blk ((((w.alloc o0).alloc o1).alloc o2).alloc (.cells cs t)) (w.heap.size + 1 + 1 + 1) t cs := by
  have := Blk.new (((w.alloc o0).alloc o1).alloc o2) t cs
  simpa only [World.size_alloc] using this
end Go.Proofs.YtifddfchpknkbaaGreatDoor
