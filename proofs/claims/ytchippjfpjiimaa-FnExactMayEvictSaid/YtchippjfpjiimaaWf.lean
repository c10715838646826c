/-
  The model's l9Free and MayEvict.
-/
import Derived.Test.YtchippjfpjiimaaWe
set_option linter.unusedVariables false
namespace Go.Proofs.Ytchippjfpjiimaa
open Go.RowKit

theorem Two.drewN {w w1 : World} {cs os : Array Value} (h : Two w w1 cs os) (n : Nat) : Two w (w1.drewN n) cs os := ⟨h.A.drewN n, h.O.drewN n⟩
theorem all_yes {n : Nat} {f : Nat → Bool} (h : ∀ j, j < n → f j = true) : (List.range n).all f = true := by simpa using h
theorem all_not {n k : Nat} {f : Nat → Bool} (hk : k < n) (h : f k = false) : (List.range n).all f = false := by
  rw [List.all_eq_false]
  exact ⟨k, by simpa using hk, by simp [h]⟩
def kidB (d : PlanD) (s : StD) (i j : Nat) : Bool := !(decide (mpar d j = i) && (mntA s.mnts j).1)

end Go.Proofs.Ytchippjfpjiimaa
