/-
  Numbers and records as bytes, there and back.
-/
import Derived.Test.YtlmjjkljkmalpaaMFxA0
/- Ra -/
set_option linter.unusedVariables false
namespace Go.Proofs.Ytlmjjkljkmalpaa
open Go.RowKit

/-- A record's three numbers. -/
structure RecD where
  k : Int
  a : Int
  b : Int
deriving DecidableEq
end Go.Proofs.Ytlmjjkljkmalpaa
