/-
  Rows of whole numbers that are the call's own, and grow.
-/
import Derived.Test.YtlmjjkljkmalpaaMFxA1
import Derived.Deep.AppendLies
/- A3 -/
set_option linter.unusedVariables false
namespace Go.Proofs.Ytlmjjkljkmalpaa
open Go.RowKit

/-- The value owns a row of n elements of k whole numbers, x 0, x 1, .. -/
def OI (w : World) (B e k : Nat) (v : Value) (n : Nat) (x : Nat → Int) : Prop :=
  ∃ xs : List Value, w.ownsRow B e k v n xs ∧ ∀ j, j < n * k → xs[j]? = some (.int .i64 (x j))
theorem OI.block {w : World} {B e k n : Nat} {v : Value} {x : Nat → Int} (h : OI w B e k v n x) {r : Nat} (hr : v.ownBlock = some r) : ∃ cs, w.heap[r]? = some (.cells cs e (0, 0)) := by
  obtain ⟨xs, hown, _⟩ := h
  rcases hown.2 with ⟨rfl, _⟩ | ⟨g, cap, cur, rfl, hb, hh, _⟩
  · cases hr
  · injection hr with hr
    subst hr
    exact ⟨cur, hh⟩
theorem OI.moved {w w' : World} {B e k n : Nat} {v : Value} {x : Nat → Int} (h : OI w B e k v n x) (hm : ∀ r, v.ownBlock = some r → w'.heap[r]? = w.heap[r]?) : OI w' B e k v n x := by
  obtain ⟨xs, hown, hx⟩ := h
  refine ⟨xs, ⟨hown.1, hown.2.imp id ?_⟩, hx⟩
  rintro ⟨g, cap, cur, hv, hb', hh, rest⟩
  exact ⟨g, cap, cur, hv, hb', (hm g (by rw [hv]; rfl)).trans hh, rest⟩
theorem OI.below {w w' : World} {B e k n : Nat} {v : Value} {x : Nat → Int} (h : OI w B e k v n x) (hb : Below w.heap.size w w') : OI w' B e k v n x :=
  h.moved fun r hr => by
    obtain ⟨cs', hb'⟩ := h.block hr
    exact hb.block r (Array.getElem?_eq_some_iff.1 hb').1
/-- Another row, of another type, has grown. -/
theorem OI.grown {w w' : World} {B e k n B' e' k' n' : Nat} {v v' : Value} {x x' : Nat → Int} (h : OI w B e k v n x) (h' : OI w B' e' k' v' n' x') (hne : e' ≠ e) (hg : w.grownBy w' v'.ownBlock) : OI w' B e k v n x :=
  h.moved fun r hr => by
    obtain ⟨cs, hb⟩ := h.block hr
    refine hg.block r (Array.getElem?_eq_some_iff.1 hb).1 fun e2 => ?_
    obtain ⟨cs', hb'⟩ := h'.block e2.symm
    rw [hb] at hb'
    injection hb' with hb'
    injection hb' with _ ht
    exact hne ht.symm
/-- An element more. -/
def ext (n k : Nat) (x : Nat → Int) (l : List Int) : Nat → Int := fun j => if j < n * k then x j else l.getD (j - n * k) 0
end Go.Proofs.Ytlmjjkljkmalpaa
