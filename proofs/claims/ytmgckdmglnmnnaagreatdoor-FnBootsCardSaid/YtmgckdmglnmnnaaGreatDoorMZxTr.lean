/-
  FnTop's loops as data: ahead of the shutting, and from it on: each order leaves all as it should, and a tick is one less to go.
-/
import Derived.Test.YtmgckdmglnmnnaaGreatDoorMZ5
import Derived.Test.YtmgckdmglnmnnaaGreatDoorMZxWn
/- Tr -/
set_option linter.unusedVariables false
namespace Go.Proofs.YtmgckdmglnmnnaaGreatDoor
open Go.RowKit

/-- What an order makes of a state, where what is planned goes. -/
def Made1 (d : PlanD) (s : StD) (k a b : Int) (x : StD) : Prop := ((plannedD d s k a b).2 ≠ 0 → x = s) ∧ ((plannedD d s k a b).2 = 0 → runR d s (plannedD d s k a b).1 = some x)
def PhLow (d : PlanD) (s : StD) (p : List RecD × Int) : Prop := p.2 = 0 → ∀ x, runR d s p.1 = some x → x.ph ≤ 2
theorem PhLow.no {d : PlanD} {s : StD} {c : Int} (h : c ≠ 0) : PhLow d s ([], c) := fun e => absurd e h
theorem PhLow.one {d : PlanD} {s : StD} {r : RecD} (h : (applyR s r).ph ≤ 2) : PhLow d s ([r], 0) := fun _ x hx => by rw [run_one hx]; exact h
end Go.Proofs.YtmgckdmglnmnnaaGreatDoor
