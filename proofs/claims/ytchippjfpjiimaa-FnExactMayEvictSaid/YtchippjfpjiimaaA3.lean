/-
  Rows of whole numbers that are the call's own, and grow.
-/
import Derived.Test.YtchippjfpjiimaaA1
import Derived.Deep.AppendLies
set_option linter.unusedVariables false
namespace Go.Proofs.Ytchippjfpjiimaa
open Go.RowKit

/-- The value owns a row of n elements of k whole numbers, x 0, x 1, .. -/
def OI (w : World) (B e k : Nat) (v : Value) (n : Nat) (x : Nat → Int) : Prop :=
  ∃ xs : List Value, w.ownsRow B e k v n xs ∧ ∀ j, j < n * k → xs[j]? = some (.int .i64 (x j))
theorem OI.nil_ (w : World) (B e k : Nat) (x : Nat → Int) : OI w B e k (.slice none 0 0) 0 x := ⟨[], World.ownsRow_nil _ _ _ _, fun j hj => by omega⟩
theorem OI.form {w : World} {B e k n : Nat} {v : Value} {x : Nat → Int} (h : OI w B e k v n x) :
    ∃ A c, v = .slice A n c ∧ Sl w w.heap.size k A n x ∧ n ≤ maxLen := by
  obtain ⟨xs, hown, hx⟩ := h
  rcases hown.2 with ⟨rfl, h0⟩ | ⟨g, cap, cur, rfl, hb, hh, hnc, hcm, _⟩
  · exact ⟨none, 0, by rw [h0], fun hn => by omega, by rw [h0]; exact Nat.zero_le _⟩
  · refine ⟨_, cap, rfl, fun hn => ⟨g, 0, rfl, (Array.getElem?_eq_some_iff.1 hh).1, fun j hj => ?_⟩, Nat.le_trans hnc hcm⟩
    have := hown.cells (g := g) rfl j _ (hx j hj)
    rw [add_zero_block] at this
    rwa [Nat.zero_add]
theorem OI.block {w : World} {B e k n : Nat} {v : Value} {x : Nat → Int} (h : OI w B e k v n x) {r : Nat} (hr : v.ownBlock = some r) : ∃ cs, w.heap[r]? = some (.cells cs e (0, 0)) := by
  obtain ⟨xs, hown, _⟩ := h
  rcases hown.2 with ⟨rfl, _⟩ | ⟨g, cap, cur, rfl, hb, hh, _⟩
  · cases hr
  · injection hr with hr
    subst hr
    exact ⟨cur, hh⟩
theorem OI.moved {w w' : World} {B e k n : Nat} {v : Value} {x : Nat → Int} (h : OI w B e k v n x) (hm : ∀ r, v.ownBlock = some r → w'.heap[r]? = w.heap[r]?) : OI w' B e k v n x := by
  obtain ⟨xs, hown, hx⟩ := h
  refine ⟨xs, ⟨hown.1, hown.2.imp id ?_⟩, hx⟩
  rintro ⟨g, cap, cur, hv, hb', hh, rest⟩
  exact ⟨g, cap, cur, hv, hb', (hm g (by rw [hv]; rfl)).trans hh, rest⟩
/-- Only block g has turned, and it is of another type. -/
theorem OI.keeps {w w' : World} {B e k n g T : Nat} {cs : Array Value} {v : Value} {x : Nat → Int} (h : OI w B e k v n x) (kk : Keeps (· = g) w w') (hg : w.heap[g]? = some (.cells cs T (0, 0))) (hne : T ≠ e) : OI w' B e k v n x :=
  h.moved fun r hr => by
    obtain ⟨cs', hb⟩ := h.block hr
    refine kk.block r (Array.getElem?_eq_some_iff.1 hb).1 fun e' => ?_
    have e' : r = g := e'
    rw [e', hg] at hb
    injection hb with hb
    injection hb with _ ht
    exact hne ht
theorem OI.below {w w' : World} {B e k n : Nat} {v : Value} {x : Nat → Int} (h : OI w B e k v n x) (hb : Below w.heap.size w w') : OI w' B e k v n x :=
  h.moved fun r hr => by
    obtain ⟨cs', hb'⟩ := h.block hr
    exact hb.block r (Array.getElem?_eq_some_iff.1 hb').1
/-- Another row, of another type, has grown. -/
theorem OI.grown {w w' : World} {B e k n B' e' k' n' : Nat} {v v' : Value} {x x' : Nat → Int} (h : OI w B e k v n x) (h' : OI w B' e' k' v' n' x') (hne : e' ≠ e) (hg : w.grownBy w' v'.ownBlock) : OI w' B e k v n x :=
  h.moved fun r hr => by
    obtain ⟨cs, hb⟩ := h.block hr
    refine hg.block r (Array.getElem?_eq_some_iff.1 hb).1 fun e2 => ?_
    obtain ⟨cs', hb'⟩ := h'.block e2.symm
    rw [hb] at hb'
    injection hb' with hb'
    injection hb' with _ ht
    exact hne ht.symm
/-- An element more. -/
def ext (n k : Nat) (x : Nat → Int) (l : List Int) : Nat → Int := fun j => if j < n * k then x j else l.getD (j - n * k) 0
theorem OI.push {w' : World} {B e k n : Nat} {v' : Value} {x : Nat → Int} {xs : List Value} (hx : ∀ j, j < n * k → xs[j]? = some (.int .i64 (x j))) (hl : xs.length = n * k) (l : List Int) (hk : l.length = k)
    (h : w'.ownsRow B e k v' (n + 1) (xs ++ l.map (Value.int .i64))) : OI w' B e k v' (n + 1) (ext n k x l) := by
  refine ⟨_, h, fun j hj => ?_⟩
  unfold ext
  by_cases hlt : j < n * k
  · rw [if_pos hlt, List.getElem?_append_left (by omega)]
    exact hx j hlt
  · rw [if_neg hlt, List.getElem?_append_right (by omega), hl]
    have : j - n * k < l.length := by rw [hk]; rw [Nat.add_mul] at hj; omega
    simp [List.getD, this]
theorem ext_lt {n k : Nat} {x : Nat → Int} {l : List Int} {j : Nat} (h : j < n * k) : ext n k x l j = x j := if_pos h
theorem ext_at {n k : Nat} {x : Nat → Int} {l : List Int} (i : Nat) : ext n k x l (n * k + i) = l.getD i 0 := by
  unfold ext
  rw [if_neg (by omega), Nat.add_sub_cancel_left]

end Go.Proofs.Ytchippjfpjiimaa
