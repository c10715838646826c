/-
  The model's draw of a plan and a state.
-/
import Derived.Test.YtkefbmbjkijilaaGreatDoorMZxZl
/- Zm -/
set_option linter.unusedVariables false
namespace Go.Proofs.YtkefbmbjkijilaaGreatDoor
open Go.RowKit

end Go.Proofs.YtkefbmbjkijilaaGreatDoor
