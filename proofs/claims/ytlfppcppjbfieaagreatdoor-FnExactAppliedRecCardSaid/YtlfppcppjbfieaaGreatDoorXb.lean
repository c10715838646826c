/-
  slices.BinarySearch and slices.Delete at []int64: the library's contracts of this program.
-/
import Derived.Test.YtlfppcppjbfieaaGreatDoorA0
import Derived.Shelf.SlicesG.SearchI
import Derived.Shelf.SlicesG.Delete
set_option linter.unusedVariables false
namespace Go.Proofs.YtlfppcppjbfieaaGreatDoor
open Go.RowKit Go.Shelf

/-- How the library's numbers go by this program's. -/
def renLk : Ren := ⟨fun k => if k = 49 then 117 else if k = 45 then 119 else if k = 59 then 120 else if k = 60 then 121 else 124,
  fun k => if k = 0 then 0 else if k = 3 then 3 else if k = 4 then 4 else if k = 22 then 23 else if k = 23 then 2 else 147, fun k => k⟩
set_option maxRecDepth 100000 in
theorem lays_search : SlLaysN.n49 Tryz.prog renLk where
  mixed := by kernel_rfl
  f49 := ⟨ "slices.BinarySearch[[]int64,int64]", by decide, by kernel_rfl⟩
  f59 := ⟨ "cmp.Less[int64]", by decide, by kernel_rfl⟩
  f60 := ⟨ "slices.isNaN[int64]", by decide, by kernel_rfl⟩
  f68 := ⟨ "cmp.isNaN[int64]", by decide, by kernel_rfl⟩
  t0 := by kernel_rfl
  a0 := fun _ => by kernel_rfl
  z0 := fun _ => by kernel_rfl
  v0 := fun _ => by kernel_rfl
  t3 := by kernel_rfl
  a3 := fun _ => by kernel_rfl
  z3 := fun _ => by kernel_rfl
  v3 := fun _ => by kernel_rfl
  t4 := by kernel_rfl
  a4 := fun _ => by kernel_rfl
  z4 := fun _ => by kernel_rfl
  v4 := fun _ => by kernel_rfl
  t22 := by kernel_rfl
  a22 := fun _ => by kernel_rfl
  z22 := fun _ => by kernel_rfl
  v22 := fun _ => by kernel_rfl
  t23 := by kernel_rfl
  a23 := fun _ => by kernel_rfl
  z23 := fun _ => by kernel_rfl
  v23 := fun _ => by kernel_rfl
  t51 := by kernel_rfl
  a51 := fun _ => by kernel_rfl
  z51 := fun _ => by kernel_rfl
  v51 := fun _ => by kernel_rfl
set_option maxRecDepth 100000 in
theorem lays_delete : SlLaysN.n45 Tryz.prog renLk where
  mixed := by kernel_rfl
  f45 := ⟨ "slices.Delete[[]int64,int64]", by decide, by kernel_rfl⟩
  t0 := by kernel_rfl
  a0 := fun _ => by kernel_rfl
  z0 := fun _ => by kernel_rfl
  v0 := fun _ => by kernel_rfl
  t3 := by kernel_rfl
  a3 := fun _ => by kernel_rfl
  z3 := fun _ => by kernel_rfl
  v3 := fun _ => by kernel_rfl
  t4 := by kernel_rfl
  a4 := fun _ => by kernel_rfl
  z4 := fun _ => by kernel_rfl
  v4 := fun _ => by kernel_rfl
  t22 := by kernel_rfl
  a22 := fun _ => by kernel_rfl
  z22 := fun _ => by kernel_rfl
  v22 := fun _ => by kernel_rfl
  t23 := by kernel_rfl
  a23 := fun _ => by kernel_rfl
  z23 := fun _ => by kernel_rfl
  v23 := fun _ => by kernel_rfl
  i23 := by kernel_rfl
end Go.Proofs.YtlfppcppjbfieaaGreatDoor
