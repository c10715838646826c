/-
  The model's draw of a plan, one time in six bent.
-/
import Derived.Test.YtkefbmbjkijilaaGreatDoorMZ2
/- Pv -/
set_option linter.unusedVariables false
set_option linter.unusedSimpArgs false
namespace Go.Proofs.YtkefbmbjkijilaaGreatDoor
open Go.RowKit

theorem OI.base {w : World} {B B' e k n : Nat} {v : Value} {x : Nat → Int} (h : OI w B e k v n x) (hb : B' ≤ B) : OI w B' e k v n x := by
  obtain ⟨xs, hown, hx⟩ := h
  exact ⟨xs, ownsRow_base hown hb, hx⟩
theorem OI.made {w : World} {B n : Nat} {v : Value} (h : w.ownsRow B 119 4 v n (madeCells #[.int .i64 0, .int .i64 0, .int .i64 0, .int .i64 0] (n * 4)).toList) : OI w B 119 4 v n (fun _ => 0) :=
  ⟨_, h, fun j hj => by
    have e : (#[.int .i64 0, .int .i64 0, .int .i64 0, .int .i64 0] : Array Value) = Array.replicate 4 (.int .i64 0) := rfl
    rw [e]
    simp [madeCells, hj]
    rw [getElem!_pos _ _ (by simp; exact Nat.mod_lt _ (by omega))]
    simp⟩
theorem Bld.of {T : TypeId} {kd : IntKind} {w w2 : World} {g : Nat} {v0 v1 v2 v3 : Value} {n0 n1 n2 n3 : Nat} {x0 x1 x2 x3 : Nat → Int} (hold : g < w.heap.size) (hc : Cur T kd w2 g) (hk : Keeps (· = g) (w.alloc (.cells zeroC 42)) w2) (cs : Array Value)
    (o0 : OI w2 (w.alloc (.cells zeroC 42)).heap.size 119 4 v0 n0 x0) (o1 : OI w2 (w.alloc (.cells zeroC 42)).heap.size 2 1 v1 n1 x1) (o2 : OI w2 (w.alloc (.cells zeroC 42)).heap.size 123 2 v2 n2 x2) (o3 : OI w2 (w.alloc (.cells zeroC 42)).heap.size 127 1 v3 n3 x3) :
    Bld T kd w (w2.alloc (.cells cs 42)) g w.heap.size w2.heap.size cs v0 v1 v2 v3 n0 n1 n2 n3 x0 x1 x2 x3 := by
  have hs := hk.size
  rw [heap_size_alloc_] at hs o0 o1 o2 o3
  have hb2 : Below w2.heap.size w2 (w2.alloc (.cells cs 42)) := (Below.refl _ _).alloc (Nat.le_refl _) _
  have hb1 : Below w.heap.size w (w.alloc (.cells zeroC 42)) := (Below.refl _ _).alloc (Nat.le_refl _) _
  exact ⟨hc.below hb2, (Keeps.of_below hb1).trans (hk.trans (Keeps.of_below hb2)), hold, heap_alloc_new _ _, by omega,
    (hb2.block _ (by omega)).trans ((hk.block _ (by rw [heap_size_alloc_]; omega) (by show ¬ w.heap.size = g; omega)).trans (heap_alloc_new _ _)), Nat.le_refl _, by omega,
    (o0.below hb2).base (by omega), (o1.below hb2).base (by omega), (o2.below hb2).base (by omega), (o3.below hb2).base (by omega)⟩
end Go.Proofs.YtkefbmbjkijilaaGreatDoor
