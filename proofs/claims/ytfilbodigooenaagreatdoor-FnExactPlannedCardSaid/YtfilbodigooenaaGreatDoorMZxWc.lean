/-
  The model's l6All.
-/
import Derived.Test.YtfilbodigooenaaGreatDoorMZ9
import Derived.Test.YtfilbodigooenaaGreatDoorMZ5
import Derived.Test.YtfilbodigooenaaGreatDoorMZ7
import Derived.Deep.RegionHeld3
import Derived.Deep.RegionLaw
import Derived.StillTailTactics
/- Wc -/
set_option linter.unusedVariables false
namespace Go.Proofs.YtfilbodigooenaaGreatDoor
open Go.RowKit

theorem rise_len {l : List Int} : ∀ {a : Int}, l.Pairwise (· < ·) → (∀ x ∈ l, a ≤ x ∧ x ≤ 7) → a ≤ 8 → (l.length : Int) ≤ 8 - a := by
  induction l with
  | nil => intro a _ _ h; simp; omega
  | cons x l ih =>
    intro a hp hx ha
    obtain ⟨h1, h2⟩ := List.pairwise_cons.1 hp
    have hx0 := hx x (by simp)
    have := ih (a := x + 1) h2 (fun y hy => ⟨h1 y hy, (hx y (by simp [hy])).2⟩) (by omega)
    simp only [List.length_cons]
    omega
theorem fits_ok {d : PlanD} {t : StD} (h : StOk d t) : StFits t 1048576 := by
  have hp := h.plan
  have h1 := h.np
  have h2 := h.nm
  have h3 := h.nd
  simp only [planOkB, sizesB, Bool.and_eq_true, decide_eq_true_eq] at hp
  have h4 : t.lks.length ≤ 8 := by
    have hr := h.rise
    have hl := h.lks
    have := rise_len (a := 0) hr hl (by omega)
    omega
  exact ⟨by omega, by omega, by omega, by omega⟩

end Go.Proofs.YtfilbodigooenaaGreatDoor
