/-
  The model's chapter 7, and the small ones of chapter 10.
-/
import Derived.Test.YtchippjfpjiimaaWb
import Derived.Test.YtchippjfpjiimaaBa
import Derived.Test.YtchippjfpjiimaaTg
set_option linter.unusedVariables false
namespace Go.Proofs.Ytchippjfpjiimaa
open Go.RowKit

end Go.Proofs.Ytchippjfpjiimaa
