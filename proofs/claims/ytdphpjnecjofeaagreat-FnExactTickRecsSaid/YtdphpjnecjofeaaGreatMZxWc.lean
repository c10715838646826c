/-
  The model's l6All.
-/
import Derived.Test.YtdphpjnecjofeaaGreatMZ7
import Derived.Test.YtdphpjnecjofeaaGreatMZ5
import Derived.Test.YtdphpjnecjofeaaGreatMZ6
import Derived.Deep.RegionHeld3
import Derived.Deep.RegionLaw
import Derived.StillTailTactics
/- Wc -/
set_option linter.unusedVariables false
namespace Go.Proofs.YtdphpjnecjofeaaGreat
open Go.RowKit

end Go.Proofs.YtdphpjnecjofeaaGreat
