/-
  Chapter 7 as data, at every number (what is spent may have wrapped around); the model's and the program's.
-/
import Derived.Test.YtbcpimnbmjhjlaaA1
set_option linter.unusedVariables false
namespace Go.Proofs.Ytbcpimnbmjhjlaa
open Go.RowKit

def stepD (hook grace st sp : Int) : Int := if st = 0 then (if 0 < hook then 1 else 2) else if st = 1 then (if hook ≤ sp then 2 else 1) else if st = 2 then (if grace ≤ sp then 3 else 2) else if st = 3 then 4 else st
def hookD (x : Int) : Int := if x = 1 then 2 else -1
def exitD (x : Int) : Int := if x = 0 ∨ x = 1 then 5 else if x = 2 ∨ x = 3 then 4 else -1

set_option maxHeartbeats 1000000 in
theorem specHook_any (x : Int) (w : World) : Calls Try.prog 11 #[.int .i64 x] w fun e w' => e = .returned (.int .i64 (hookD x)) ∧ w = w' := by
  have HH : Hid (hookD x = if x = 1 then 2 else -1) := Lib.hid rfl
  by_cases h1 : x = 1
  · subst h1
    go_enter Try.func11, Try.ntmps11
    go_wp2
    all_goals (go_ret; exact ⟨by rw [HH.out]; simp [*], rfl⟩)
  · skip
    go_enter Try.func11, Try.ntmps11
    go_wp2
    all_goals (go_ret; exact ⟨by rw [HH.out]; simp [*], rfl⟩)

set_option maxHeartbeats 1000000 in
theorem implHook_any (x : Int) (w : World) : Calls Try.prog 12 #[.int .i64 x] w fun e w' => e = .returned (.int .i64 (hookD x)) ∧ w = w' := by
  have HH : Hid (hookD x = if x = 1 then 2 else -1) := Lib.hid rfl
  by_cases h1 : x = 1
  · subst h1
    go_enter Try.func12, Try.ntmps12
    go_wp2
    all_goals (go_ret; exact ⟨by rw [HH.out]; simp [*], rfl⟩)
  · skip
    go_enter Try.func12, Try.ntmps12
    go_wp2
    all_goals (go_ret; exact ⟨by rw [HH.out]; simp [*], rfl⟩)

set_option maxHeartbeats 1000000 in
theorem specExit_any (x : Int) (w : World) : Calls Try.prog 13 #[.int .i64 x] w fun e w' => e = .returned (.int .i64 (exitD x)) ∧ w = w' := by
  have HH : Hid (exitD x = if x = 0 ∨ x = 1 then 5 else if x = 2 ∨ x = 3 then 4 else -1) := Lib.hid rfl
  by_cases h0 : x = 0
  · subst h0
    go_enter Try.func13, Try.ntmps13
    go_wp2
    all_goals (go_ret; exact ⟨by rw [HH.out]; simp [*], rfl⟩)
  · skip
    by_cases h1 : x = 1
    · subst h1
      go_enter Try.func13, Try.ntmps13
      go_wp2
      all_goals (go_ret; exact ⟨by rw [HH.out]; simp [*], rfl⟩)
    · skip
      by_cases h2 : x = 2
      · subst h2
        go_enter Try.func13, Try.ntmps13
        go_wp2
        all_goals (go_ret; exact ⟨by rw [HH.out]; simp [*], rfl⟩)
      · skip
        by_cases h3 : x = 3
        · subst h3
          go_enter Try.func13, Try.ntmps13
          go_wp2
          all_goals (go_ret; exact ⟨by rw [HH.out]; simp [*], rfl⟩)
        · skip
          go_enter Try.func13, Try.ntmps13
          go_wp2
          all_goals (go_ret; exact ⟨by rw [HH.out]; simp [*], rfl⟩)

set_option maxHeartbeats 1000000 in
theorem implExit_any (x : Int) (w : World) : Calls Try.prog 14 #[.int .i64 x] w fun e w' => e = .returned (.int .i64 (exitD x)) ∧ w = w' := by
  have HH : Hid (exitD x = if x = 0 ∨ x = 1 then 5 else if x = 2 ∨ x = 3 then 4 else -1) := Lib.hid rfl
  by_cases h0 : x = 0
  · subst h0
    go_enter Try.func14, Try.ntmps14
    go_wp2
    all_goals (go_ret; exact ⟨by rw [HH.out]; simp [*], rfl⟩)
  · skip
    by_cases h1 : x = 1
    · subst h1
      go_enter Try.func14, Try.ntmps14
      go_wp2
      all_goals (go_ret; exact ⟨by rw [HH.out]; simp [*], rfl⟩)
    · skip
      by_cases h2 : x = 2
      · subst h2
        go_enter Try.func14, Try.ntmps14
        go_wp2
        all_goals (go_ret; exact ⟨by rw [HH.out]; simp [*], rfl⟩)
      · skip
        by_cases h3 : x = 3
        · subst h3
          go_enter Try.func14, Try.ntmps14
          go_wp2
          all_goals (go_ret; exact ⟨by rw [HH.out]; simp [*], rfl⟩)
        · skip
          go_enter Try.func14, Try.ntmps14
          go_wp2
          all_goals (go_ret; exact ⟨by rw [HH.out]; simp [*], rfl⟩)

set_option maxHeartbeats 2000000 in
theorem specStep_any (gr ba grace hook st since clock : Int) (w : World) :
    Calls Try.prog 7 #[.agg #[.int .i64 gr, .int .i64 ba, .int .i64 grace, .int .i64 hook], .agg #[.int .i64 st, .int .i64 since], .int .i64 clock] w fun e w' =>
      e = .returned (.int .i64 (stepD hook grace st (wrap64 (clock - since)))) ∧ Below w.heap.size w w' := by
  have HH : ∀ sp, Hid (stepD hook grace st sp = if st = 0 then (if 0 < hook then 1 else 2) else if st = 1 then (if hook ≤ sp then 2 else 1) else if st = 2 then (if grace ≤ sp then 3 else 2) else if st = 3 then 4 else st) := fun _ => Lib.hid rfl
  replace HH := HH (wrap64 (clock - since))
  generalize stepD hook grace st (wrap64 (clock - since)) = ans at HH
  have K2 : Below w.heap.size w ((w.alloc (.cells #[.int .i64 gr, .int .i64 ba, .int .i64 grace, .int .i64 hook] 27)).alloc (.cells #[.int .i64 st, .int .i64 since] 29)) := ((Below.refl _ _).alloc (Nat.le_refl _) _).alloc (by simp) _
  by_cases e0 : st = 0
  · subst e0
    by_cases e1 : 0 < hook
    · skip
      go_enter Try.func7, Try.ntmps7
      go_wp2
      all_goals (go_ret; exact ⟨by rw [HH.out]; simp [*], K2⟩)
    · skip
      go_enter Try.func7, Try.ntmps7
      go_wp2
      all_goals (go_ret; exact ⟨by rw [HH.out]; simp [*], K2⟩)
  · by_cases e1 : st = 1
    · subst e1
      by_cases e2 : hook ≤ wrap64 (clock - since)
      · skip
        go_enter Try.func7, Try.ntmps7
        go_wp2
        all_goals (go_ret; exact ⟨by rw [HH.out]; simp [*], K2⟩)
      · skip
        go_enter Try.func7, Try.ntmps7
        go_wp2
        all_goals (go_ret; exact ⟨by rw [HH.out]; simp [*], K2⟩)
    · by_cases e2 : st = 2
      · subst e2
        by_cases e3 : grace ≤ wrap64 (clock - since)
        · skip
          go_enter Try.func7, Try.ntmps7
          go_wp2
          all_goals (go_ret; exact ⟨by rw [HH.out]; simp [*], K2⟩)
        · skip
          go_enter Try.func7, Try.ntmps7
          go_wp2
          all_goals (go_ret; exact ⟨by rw [HH.out]; simp [*], K2⟩)
      · by_cases e3 : st = 3
        · subst e3
          go_enter Try.func7, Try.ntmps7
          go_wp2
          all_goals (go_ret; exact ⟨by rw [HH.out]; simp [*], K2⟩)
        · skip
          go_enter Try.func7, Try.ntmps7
          go_wp2
          all_goals (go_ret; exact ⟨by rw [HH.out]; simp [*], K2⟩)

set_option maxHeartbeats 2000000 in
theorem implStep_any (gr ba grace hook st since clock : Int) (w : World) :
    Calls Try.prog 10 #[.agg #[.int .i64 gr, .int .i64 ba, .int .i64 grace, .int .i64 hook], .agg #[.int .i64 st, .int .i64 since], .int .i64 clock] w fun e w' =>
      e = .returned (.int .i64 (stepD hook grace st (wrap64 (clock - since)))) ∧ Below w.heap.size w w' := by
  have HH : ∀ sp, Hid (stepD hook grace st sp = if st = 0 then (if 0 < hook then 1 else 2) else if st = 1 then (if hook ≤ sp then 2 else 1) else if st = 2 then (if grace ≤ sp then 3 else 2) else if st = 3 then 4 else st) := fun _ => Lib.hid rfl
  replace HH := HH (wrap64 (clock - since))
  generalize stepD hook grace st (wrap64 (clock - since)) = ans at HH
  have K2 : Below w.heap.size w ((w.alloc (.cells #[.int .i64 gr, .int .i64 ba, .int .i64 grace, .int .i64 hook] 27)).alloc (.cells #[.int .i64 st, .int .i64 since] 29)) := ((Below.refl _ _).alloc (Nat.le_refl _) _).alloc (by simp) _
  by_cases e0 : st = 0
  · subst e0
    by_cases e1 : 0 < hook
    · skip
      go_enter Try.func10, Try.ntmps10
      go_wp2
      all_goals (go_ret; exact ⟨by rw [HH.out]; simp [*], K2⟩)
    · skip
      go_enter Try.func10, Try.ntmps10
      go_wp2
      all_goals (go_ret; exact ⟨by rw [HH.out]; simp [*], K2⟩)
  · by_cases e1 : st = 1
    · subst e1
      by_cases e2 : hook ≤ wrap64 (clock - since)
      · skip
        go_enter Try.func10, Try.ntmps10
        go_wp2
        all_goals (go_ret; exact ⟨by rw [HH.out]; simp [*], K2⟩)
      · skip
        go_enter Try.func10, Try.ntmps10
        go_wp2
        all_goals (go_ret; exact ⟨by rw [HH.out]; simp [*], K2⟩)
    · by_cases e2 : st = 2
      · subst e2
        by_cases e3 : grace ≤ wrap64 (clock - since)
        · skip
          go_enter Try.func10, Try.ntmps10
          go_wp2
          all_goals (go_ret; exact ⟨by rw [HH.out]; simp [*], K2⟩)
        · skip
          go_enter Try.func10, Try.ntmps10
          go_wp2
          all_goals (go_ret; exact ⟨by rw [HH.out]; simp [*], K2⟩)
      · by_cases e3 : st = 3
        · subst e3
          go_enter Try.func10, Try.ntmps10
          go_wp2
          all_goals (go_ret; exact ⟨by rw [HH.out]; simp [*], K2⟩)
        · skip
          go_enter Try.func10, Try.ntmps10
          go_wp2
          all_goals (go_ret; exact ⟨by rw [HH.out]; simp [*], K2⟩)
end Go.Proofs.Ytbcpimnbmjhjlaa
