/-
  The program's own small readers of chapter 1: a pod's group, a mount's parent, a mount's pod.
-/
import Derived.Test.YtlmjjkljkmalpaaMFxPb
/- PbG -/
set_option linter.unusedVariables false
namespace Go.Proofs.Ytlmjjkljkmalpaa
open Go.RowKit

end Go.Proofs.Ytlmjjkljkmalpaa
