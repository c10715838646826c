/-
  The model's own draw of a plan.
-/
import Derived.Test.YtkefbmbjkijilaaGreatDoorMZ2
/- Pu -/
set_option linter.unusedVariables false
namespace Go.Proofs.YtkefbmbjkijilaaGreatDoor
open Go.RowKit

end Go.Proofs.YtkefbmbjkijilaaGreatDoor
