/-
  The model's ProbeRecs.
-/
import Derived.Test.YtkefbmbjkijilaaGreatDoorMZ12
import Derived.Test.YtkefbmbjkijilaaGreatDoorMZxWc
/- Wl -/
set_option linter.unusedVariables false
namespace Go.Proofs.YtkefbmbjkijilaaGreatDoor
open Go.RowKit

def tickD (d : PlanD) (s : StD) : List RecD × Int := if 1000000 ≤ s.ck then noR 7 else (tickL d s, 0)
def bootD (d : PlanD) (s : StD) (id : Int) : List RecD × Int := if inB id 1 1000000 then (if id = s.bo then noR 6 else (bootL d s id, 0)) else noR 1
def probeD (d : PlanD) (s : StD) (good : Bool) : List RecD × Int := if s.ph = 6 ∨ s.ph = 7 then (probeL d s good, 0) else noR 3
end Go.Proofs.YtkefbmbjkijilaaGreatDoor
/- Wm -/
set_option linter.unusedVariables false
namespace Go.Proofs.YtkefbmbjkijilaaGreatDoor
open Go.RowKit

end Go.Proofs.YtkefbmbjkijilaaGreatDoor
