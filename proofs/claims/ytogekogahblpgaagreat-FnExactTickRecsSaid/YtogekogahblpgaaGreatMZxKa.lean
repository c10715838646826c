/-
  Chapter 7 as data, at every number (what is spent may have wrapped around); the model's and the program's.
-/
import Derived.Test.YtogekogahblpgaaGreatMZ0
/- Ka -/
set_option linter.unusedVariables false
namespace Go.Proofs.YtogekogahblpgaaGreat
open Go.RowKit

def stepD (hook grace st sp : Int) : Int := if st = 0 then (if 0 < hook then 1 else 2) else if st = 1 then (if hook ≤ sp then 2 else 1) else if st = 2 then (if grace ≤ sp then 3 else 2) else if st = 3 then 4 else st
set_option maxHeartbeats 2000000 in
theorem implStep_any (gr ba grace hook st since clock : Int) (w : World) :
    Calls Tryz.prog 106 #[.agg #[.int .i64 gr, .int .i64 ba, .int .i64 grace, .int .i64 hook], .agg #[.int .i64 st, .int .i64 since], .int .i64 clock] w fun e w' =>
      e = .returned (.int .i64 (stepD hook grace st (wrap64 (clock - since)))) ∧ Below w.heap.size w w' := by
  have HH : ∀ sp, Hid (stepD hook grace st sp = if st = 0 then (if 0 < hook then 1 else 2) else if st = 1 then (if hook ≤ sp then 2 else 1) else if st = 2 then (if grace ≤ sp then 3 else 2) else if st = 3 then 4 else st) := fun _ => Lib.hid rfl
  replace HH := HH (wrap64 (clock - since))
  generalize stepD hook grace st (wrap64 (clock - since)) = ans at HH
  have K2 : Below w.heap.size w ((w.alloc (.cells #[.int .i64 gr, .int .i64 ba, .int .i64 grace, .int .i64 hook] 97)).alloc (.cells #[.int .i64 st, .int .i64 since] 109)) := ((Below.refl _ _).alloc (Nat.le_refl _) _).alloc (by simp) _
  by_cases e0 : st = 0
  · subst e0
    by_cases e1 : 0 < hook
    · skip
      go_enter Tryz.func106, Tryz.ntmps106
      go_wp2
      all_goals (go_ret; exact ⟨by rw [HH.out]; simp [*], K2⟩)
    · skip
      go_enter Tryz.func106, Tryz.ntmps106
      go_wp2
      all_goals (go_ret; exact ⟨by rw [HH.out]; simp [*], K2⟩)
  · by_cases e1 : st = 1
    · subst e1
      by_cases e2 : hook ≤ wrap64 (clock - since)
      · skip
        go_enter Tryz.func106, Tryz.ntmps106
        go_wp2
        all_goals (go_ret; exact ⟨by rw [HH.out]; simp [*], K2⟩)
      · skip
        go_enter Tryz.func106, Tryz.ntmps106
        go_wp2
        all_goals (go_ret; exact ⟨by rw [HH.out]; simp [*], K2⟩)
    · by_cases e2 : st = 2
      · subst e2
        by_cases e3 : grace ≤ wrap64 (clock - since)
        · skip
          go_enter Tryz.func106, Tryz.ntmps106
          go_wp2
          all_goals (go_ret; exact ⟨by rw [HH.out]; simp [*], K2⟩)
        · skip
          go_enter Tryz.func106, Tryz.ntmps106
          go_wp2
          all_goals (go_ret; exact ⟨by rw [HH.out]; simp [*], K2⟩)
      · by_cases e3 : st = 3
        · subst e3
          go_enter Tryz.func106, Tryz.ntmps106
          go_wp2
          all_goals (go_ret; exact ⟨by rw [HH.out]; simp [*], K2⟩)
        · skip
          go_enter Tryz.func106, Tryz.ntmps106
          go_wp2
          all_goals (go_ret; exact ⟨by rw [HH.out]; simp [*], K2⟩)
end Go.Proofs.YtogekogahblpgaaGreat
