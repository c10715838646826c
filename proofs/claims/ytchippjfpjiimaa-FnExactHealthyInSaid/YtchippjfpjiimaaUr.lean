/-
  The model's l6There, l6Apply.
-/
import Derived.Test.YtchippjfpjiimaaUq
import Derived.Test.YtchippjfpjiimaaUh
set_option linter.unusedVariables false
namespace Go.Proofs.Ytchippjfpjiimaa
open Go.RowKit

abbrev recC (r : RecD) : Value := .agg #[.int .i64 r.k, .int .i64 r.a, .int .i64 r.b]
end Go.Proofs.Ytchippjfpjiimaa
