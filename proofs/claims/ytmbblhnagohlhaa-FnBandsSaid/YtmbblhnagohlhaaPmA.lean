/-
  Lists of the call's own, opened; how they stay.
-/
import Derived.Test.YtmbblhnagohlhaaPkA
import Derived.Test.YtmbblhnagohlhaaPlA
set_option linter.unusedVariables false
namespace Go.Proofs.Ytmbblhnagohlhaa
open Go.RowKit

theorem found_le (d : PlanD) (n : Nat) (f : Nat → Int) (wanted : Int) : (found d n f wanted).length ≤ n := by
  unfold found
  split
  · exact hits_le _ _ _
  · exact Nat.zero_le _

/-- A list of the call's own, opened. -/
theorem open_list {w : World} {B : Nat} {v : Value} {L : List Int} (h : w.ownsRow B 2 1 v L.length (L.map (Value.int .i64))) :
    ∃ A c g, v = .slice A L.length c ∧ (0 < L.length → A = some ⟨g, 0, none⟩) ∧ B ≤ g ∧ (0 < L.length → g < w.heap.size) ∧ RowF w g L.length (fun j => L.getD j 0) := by
  rcases h.2 with ⟨rfl, h0⟩ | ⟨g, cap, cur, rfl, hb, hh, _⟩
  · exact ⟨none, 0, B, by rw [h0], fun h => by omega, Nat.le_refl _, fun h => by omega, fun j hj => by omega⟩
  · refine ⟨_, cap, g, rfl, fun _ => rfl, hb, fun _ => (Array.getElem?_eq_some_iff.1 hh).1, fun j hj => ⟨?_, frozen_of_row _ _ _ _ _ hh⟩⟩
    have := h.cells (g := g) rfl j (.int .i64 (L.getD j 0)) (by simp [List.getD, hj])
    rwa [add_zero_block] at this
theorem row_sl {w : World} {A : Option Addr} {n g : Nat} {x : Nat → Int} (hA : 0 < n → A = some ⟨g, 0, none⟩) (hg : 0 < n → g < w.heap.size) (R : RowF w g n x) : Sl w w.heap.size 1 A n x := fun hn =>
  ⟨g, 0, hA hn, hg hn, fun j hj => by rw [Nat.zero_add]; exact (R j (by omega)).1⟩
theorem RowF.go {w w' : World} {g n : Nat} {x : Nat → Int} (R : RowF w g n x) (hg : 0 < n → g < w.heap.size) (hb : Below w.heap.size w w') : RowF w' g n x := fun j hj => R.below hb (hg (by omega)) j hj
theorem RowF.goK {S : Nat → Prop} {w w' : World} {g n : Nat} {x : Nat → Int} (R : RowF w g n x) (hg : 0 < n → g < w.heap.size) (k : Keeps S w w') (hn : 0 < n → ¬ S g) : RowF w' g n x := fun j hj => R.keeps k (hg (by omega)) (hn (by omega)) j hj
theorem NewPlan.below {w0 w w' : World} {d : PlanD} {g0 g1 g2 g3 : Nat} (h : NewPlan w0 w d g0 g1 g2 g3) (hb : Below w.heap.size w w') : NewPlan w0 w' d g0 g1 g2 g3 := by
  obtain ⟨l0, l1, l2, l3, l4, R0, R1, R2, R3⟩ := h
  exact ⟨l0, l1, l2, l3, Nat.lt_of_lt_of_le l4 hb.size, R0.below hb (by omega), R1.below hb (by omega), R2.below hb (by omega), R3.below hb (by omega)⟩

end Go.Proofs.Ytmbblhnagohlhaa
