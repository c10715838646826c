/-
  The laws' bound on the input.
-/
import Derived.Test.YtggolnfhiagadaaDoorA1
set_option linter.unusedVariables false
namespace Go.Proofs.YtggolnfhiagadaaDoor
open Go.RowKit

theorem big_any (A : Option Addr) (n c : Nat) (w : World) (hn : n ≤ maxLen) : Calls Tryd.prog 7 #[.slice A n c] w fun e w' => e = .returned (.bool (decide (4096 < (n : Int)))) ∧ w = w' := by
  go_enter Tryd.func7, Tryd.ntmps7
  go_wp2
  go_ret
  exact ⟨rfl, rfl⟩

end Go.Proofs.YtggolnfhiagadaaDoor
