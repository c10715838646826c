/-
  The model's l6Apply, whatever the record.
-/
import Derived.Test.YtchippjfpjiimaaUt
set_option linter.unusedVariables false
namespace Go.Proofs.Ytchippjfpjiimaa
open Go.RowKit

end Go.Proofs.Ytchippjfpjiimaa
