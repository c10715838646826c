/-
  The model's l6All.
-/
import Derived.Test.YtdphpjnecjofeaaMZ8
import Derived.Test.YtdphpjnecjofeaaMZ3
import Derived.Test.YtdphpjnecjofeaaMZ13
import Derived.Deep.RegionHeld3
import Derived.Deep.RegionLaw
import Derived.StillTailTactics
/- Wc -/
set_option linter.unusedVariables false
namespace Go.Proofs.Ytdphpjnecjofeaa
open Go.RowKit

theorem rise_len {l : List Int} : ∀ {a : Int}, l.Pairwise (· < ·) → (∀ x ∈ l, a ≤ x ∧ x ≤ 7) → a ≤ 8 → (l.length : Int) ≤ 8 - a := by
  induction l with
  | nil => intro a _ _ h; simp; omega
  | cons x l ih =>
    intro a hp hx ha
    obtain ⟨h1, h2⟩ := List.pairwise_cons.1 hp
    have hx0 := hx x (by simp)
    have := ih (a := x + 1) h2 (fun y hy => ⟨h1 y hy, (hx y (by simp [hy])).2⟩) (by omega)
    simp only [List.length_cons]
    omega
end Go.Proofs.Ytdphpjnecjofeaa
