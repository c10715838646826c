/-
  NextBand: the program's and the model's, each answers the same.
-/
import Derived.Test.YtlmllnbibiihhaaMZ3
/- Sf -/
set_option linter.unusedVariables false
namespace Go.Proofs.Ytlmllnbibiihhaa
open Go.RowKit

end Go.Proofs.Ytlmllnbibiihhaa
