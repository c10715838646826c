/-
  Lists of the call's own, opened; how they stay.
-/
import Derived.Test.YtaafbneaibklkaaPjA
set_option linter.unusedVariables false
namespace Go.Proofs.Ytaafbneaibklkaa
open Go.RowKit
theorem found_le (d : PlanD) (n : Nat) (f : Nat → Int) (wanted : Int) : (found d n f wanted).length ≤ n := by
  unfold found
  split
  · exact hits_le _ _ _
  · exact Nat.zero_le _

theorem NewPlan.below {w0 w w' : World} {d : PlanD} {g0 g1 g2 g3 : Nat} (h : NewPlan w0 w d g0 g1 g2 g3) (hb : Below w.heap.size w w') : NewPlan w0 w' d g0 g1 g2 g3 := by
  obtain ⟨l0, l1, l2, l3, l4, R0, R1, R2, R3⟩ := h
  exact ⟨l0, l1, l2, l3, Nat.lt_of_lt_of_le l4 hb.size, R0.below hb (by omega), R1.below hb (by omega), R2.below hb (by omega), R3.below hb (by omega)⟩

end Go.Proofs.Ytaafbneaibklkaa
