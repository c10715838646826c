/-
  Rows of the call's own, at another base; a block beside one that has grown.
-/
import Derived.Test.YtmbblhnagohlhaaPjA
set_option linter.unusedVariables false
namespace Go.Proofs.Ytmbblhnagohlhaa
open Go.RowKit

theorem ownsRow_base {w : World} {base base' e size n : Nat} {v : Value} {xs : List Value} (h : w.ownsRow base e size v n xs) (hb : base' ≤ base) : w.ownsRow base' e size v n xs :=
  ⟨h.1, h.2.imp id fun ⟨g, cap, cur, hv, hb', rest⟩ => ⟨g, cap, cur, hv, Nat.le_trans hb hb', rest⟩⟩
theorem Listed.back {w w1 w2 : World} {L : List Int} {e : Ending} (h : Listed w1 L e w2) (K : Below w.heap.size w w1) : Listed w L e w2 := by
  obtain ⟨v, he, O, hb⟩ := h
  exact ⟨v, he, ownsRow_base O K.size, K.trans (hb.mono K.size)⟩

theorem Own.grown {w w1 w2 : World} {g : Nat} {cs : Array Value} (h : Own w w1 g cs) {row : Option Nat} (hg : w1.grownBy w2 row) (hr : ∀ r, row = some r → w.heap.size < r ∧ g ≠ r ∨ w.heap.size ≤ r ∧ g < r) : Own w w2 g cs := by
  have hne : ∀ r, row = some r → g ≠ r := fun r e => by rcases hr r e with ⟨_, h⟩ | ⟨_, h⟩ <;> omega
  have hge : ∀ r, row = some r → w.heap.size ≤ r := fun r e => by rcases hr r e with ⟨h, _⟩ | ⟨h, _⟩ <;> omega
  have hb : w2.heap[g]? = w1.heap[g]? := hg.block g h.z fun e => hne g e.symm rfl
  exact ⟨h.K.grown hg h.K.size hge, Nat.lt_of_lt_of_le h.z hg.size, fun o => (World.cell?_of_block (w := w1) (a := ⟨g, o, none⟩) hb).trans (h.C o), fun o => (World.frozen?_of_block (w := w1) (a := ⟨g, o, none⟩) hb).trans (h.F o)⟩

end Go.Proofs.Ytmbblhnagohlhaa
