/-
  The model's draw of an agent.
-/
import Derived.Test.YtkefbmbjkijilaaGreatDoorMZ17
import Derived.Test.YtkefbmbjkijilaaGreatDoorMZ2
/- Zk -/
set_option linter.unusedVariables false
namespace Go.Proofs.YtkefbmbjkijilaaGreatDoor
open Go.RowKit

theorem OwnAg.flat {w : World} {B : Nat} {v : Value} {d : PlanD} {s : StD} {st : List Nat} (h : OwnAg w B v d s st) : ∃ cs, v = .agg cs ∧ cs.size = 20 ∧ cs.all (·.oneCell') = true := by
  obtain ⟨p0_, p1_, p2_, p3_, s0_, s1_, s2_, s3_, b_, rfl, Lp, Os, Ob, -⟩ := h.it
  obtain ⟨⟨Y0, f0, rfl⟩, ⟨Y1, f1, rfl⟩, ⟨Y2, f2, rfl⟩, ⟨Y3, f3, rfl⟩⟩ := Os.shapes
  obtain ⟨Q0, e0, rfl, -, -⟩ := Lp.o0.formR
  obtain ⟨Q1, e1, rfl, -, -⟩ := Lp.o1.formR
  obtain ⟨Q2, e2, rfl, -, -⟩ := Lp.o2.formR
  obtain ⟨Q3, e3, rfl, -, -⟩ := Lp.o3.formR
  obtain ⟨Ab, cb, -, rfl, -⟩ := Ob.open_
  exact ⟨_, rfl, rfl, by simp [Value.oneCell']⟩
theorem OwnAg.keepsT {w w' : World} {B g T : Nat} {cs : Array Value} {v : Value} {d : PlanD} {s : StD} {st : List Nat} (h : OwnAg w B v d s st) (kk : Keeps (· = g) w w') (hg : w.heap[g]? = some (.cells cs T (0, 0)))
    (hT : (T ≠ 119 ∧ T ≠ 2 ∧ T ≠ 123 ∧ T ≠ 127) ∧ (T ≠ 106 ∧ T ≠ 108 ∧ T ≠ 4 ∧ T ≠ 2) ∧ T ≠ 5) : OwnAg w' B v d s st := by
  obtain ⟨p0_, p1_, p2_, p3_, s0_, s1_, s2_, s3_, b_, hv, Lp, Os, Ob, AP⟩ := h.it
  exact ⟨p0_, p1_, p2_, p3_, s0_, s1_, s2_, s3_, b_, hv, Lp.keeps kk hg hT.1, Os.keepsT kk hg hT.2.1, Ob.keepsT kk hg hT.2.2, AP⟩
theorem Keeps.row {S : Nat → Prop} {w W : World} {g3 : Nat} {cs : Array Value} (h : Keeps S w W) (hg : w.heap.size ≤ g3) : Keeps S w (W.setRow g3 cs) :=
  ⟨h.os, h.tape, h.output, by rw [size_setRow]; exact h.size, fun b hb hn => (setRow_other W g3 b cs (by omega)).trans (h.block b hb hn)⟩
theorem Cur.cells {T : TypeId} {k : IntKind} {w : World} {g : Nat} (h : Cur T k w g) : ∃ cs, w.heap[g]? = some (.cells cs T (0, 0)) := by
  obtain ⟨A, n, c, i, x, hg, -⟩ := h.it
  exact ⟨_, hg⟩
end Go.Proofs.YtkefbmbjkijilaaGreatDoor
