/-
  The two exact laws of chapter 12 side by side.
-/
import Derived.Test.YtlmllnbibiihhaaMZxOe
import Derived.Test.YtlmllnbibiihhaaMZxOo
/- Oz -/
namespace Go.Proofs.Ytlmllnbibiihhaa
#print axioms fnExactBootRecs_holds
#print axioms fnExactProbeRecs_holds
end Go.Proofs.Ytlmllnbibiihhaa
