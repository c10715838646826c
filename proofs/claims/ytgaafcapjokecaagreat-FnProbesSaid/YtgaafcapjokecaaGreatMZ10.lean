/-
  The program's table of changes.
-/
import Derived.Test.YtgaafcapjokecaaGreatMZ9
import Derived.Test.YtgaafcapjokecaaGreatMZ6
import Derived.Laws.EntriesVeiled
/- Xf -/
set_option linter.unusedVariables false
namespace Go.Proofs.YtgaafcapjokecaaGreat
open Go.RowKit

end Go.Proofs.YtgaafcapjokecaaGreat
/- Xg -/
set_option linter.unusedVariables false
namespace Go.Proofs.YtgaafcapjokecaaGreat
open Go.RowKit

end Go.Proofs.YtgaafcapjokecaaGreat
/- Xi -/
set_option linter.unusedVariables false
namespace Go.Proofs.YtgaafcapjokecaaGreat
open Go.RowKit

end Go.Proofs.YtgaafcapjokecaaGreat
