/-
  What has turned between two worlds, and what has not.
-/
import Derived.Test.YtmbblhnagohlhaaPjA
set_option linter.unusedVariables false
namespace Go.Proofs.Ytmbblhnagohlhaa
open Go.RowKit

/-- From w to w' nothing has turned but in the blocks that S tells. -/
structure Keeps (S : Nat → Prop) (w w' : World) : Prop where
  os : w'.os = w.os
  tape : w'.tape = w.tape
  output : w'.output = w.output
  size : w.heap.size ≤ w'.heap.size
  block : ∀ b, b < w.heap.size → ¬ S b → w'.heap[b]? = w.heap[b]?
theorem Keeps.refl (S : Nat → Prop) (w : World) : Keeps S w w := ⟨rfl, rfl, rfl, Nat.le_refl _, fun _ _ _ => rfl⟩
theorem Keeps.of_below {S : Nat → Prop} {w w' : World} (h : Below w.heap.size w w') : Keeps S w w' := ⟨h.os, h.tape, h.output, h.size, fun b hb _ => h.block b hb⟩
theorem Keeps.trans {S : Nat → Prop} {a b c : World} (h : Keeps S a b) (k : Keeps S b c) : Keeps S a c :=
  ⟨k.os.trans h.os, k.tape.trans h.tape, k.output.trans h.output, Nat.le_trans h.size k.size, fun i hi hn => (k.block i (Nat.lt_of_lt_of_le hi h.size) hn).trans (h.block i hi hn)⟩
theorem Keeps.mono {S T : Nat → Prop} {w w' : World} (h : Keeps S w w') (hST : ∀ b, S b → T b) : Keeps T w w' := ⟨h.os, h.tape, h.output, h.size, fun b hb hn => h.block b hb fun hs => hn (hST b hs)⟩
theorem Keeps.set {S : Nat → Prop} {w w' : World} (h : Keeps S w w') {p : Addr} (hp : S p.block) (v : Value) : Keeps S w (w'.setCell p v) :=
  ⟨h.os, h.tape, h.output, by simpa [World.setCell] using h.size, fun b hb hn => (Below.heap_setCell _ _ _ _ (fun e => hn (by rw [e]; exact hp))).trans (h.block b hb hn)⟩
theorem Keeps.below {S : Nat → Prop} {w w' : World} {B : Nat} (h : Keeps S w w') (hB : B ≤ w.heap.size) (hS : ∀ b, b < B → ¬ S b) : Below B w w' :=
  ⟨h.os, h.tape, h.output, h.size, fun b hb => h.block b (by omega) (hS b hb)⟩
theorem Keeps.cell {S : Nat → Prop} {w w' : World} (h : Keeps S w w') {p : Addr} (hp : p.block < w.heap.size) (hn : ¬ S p.block) : w'.cell? p = w.cell? p := World.cell?_of_block (w := w) (h.block _ hp hn)
theorem Keeps.frozen {S : Nat → Prop} {w w' : World} (h : Keeps S w w') {p : Addr} (hp : p.block < w.heap.size) (hn : ¬ S p.block) : w'.frozen? p = w.frozen? p := World.frozen?_of_block (w := w) (h.block _ hp hn)
theorem RowF.keeps {S : Nat → Prop} {w w' : World} {g N : Nat} {x : Nat → Int} (h : RowF w g N x) (k : Keeps S w w') (hg : g < w.heap.size) (hn : ¬ S g) : RowF w' g N x := fun j hj =>
  ⟨(k.cell (p := ⟨g, j, none⟩) hg hn).trans (h j hj).1, (k.frozen (p := ⟨g, j, none⟩) hg hn).trans (h j hj).2⟩
theorem Own.keeps {S : Nat → Prop} {w w1 w2 : World} {g : Nat} {cs : Array Value} (h : Own w w1 g cs) (k : Keeps S w1 w2) (hS : ∀ b, S b → w.heap.size ≤ b) (hn : ¬ S g) : Own w w2 g cs :=
  ⟨h.K.trans (k.below h.K.size fun b hb hs => by have := hS b hs; omega), Nat.lt_of_lt_of_le h.z k.size, fun o => (k.cell (p := ⟨g, o, none⟩) h.z hn).trans (h.C o), fun o => (k.frozen (p := ⟨g, o, none⟩) h.z hn).trans (h.F o)⟩

/-- A block of N whole numbers, whichever. -/
def Ints (w : World) (g N : Nat) : Prop := ∃ x, RowF w g N x
theorem Ints.at_ {w : World} {g N j : Nat} (h : Ints w g N) (hj : j < N) : ∃ v, w.cell? ⟨g, j, none⟩ = some v ∧ w.frozen? ⟨g, j, none⟩ = false := by
  obtain ⟨x, R⟩ := h
  exact ⟨_, (R j hj).1, (R j hj).2⟩
theorem Ints.set {w : World} {g N i : Nat} {v : Int} (h : Ints w g N) : Ints (w.setCell ⟨g, i, none⟩ (.int .i64 v)) g N := by
  obtain ⟨x, R⟩ := h
  exact ⟨_, R.set v⟩
theorem Ints.keeps {S : Nat → Prop} {w w' : World} {g N : Nat} (h : Ints w g N) (k : Keeps S w w') (hg : g < w.heap.size) (hn : ¬ S g) : Ints w' g N := by
  obtain ⟨x, R⟩ := h
  exact ⟨x, R.keeps k hg hn⟩

end Go.Proofs.Ytmbblhnagohlhaa
