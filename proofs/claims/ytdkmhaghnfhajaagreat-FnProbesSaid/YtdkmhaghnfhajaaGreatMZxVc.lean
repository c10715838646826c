/-
  Alive: the program's, and the law's walk.
-/
import Derived.Test.YtdkmhaghnfhajaaGreatMZxUo
/- Vc -/
set_option linter.unusedVariables false
namespace Go.Proofs.YtdkmhaghnfhajaaGreat
open Go.RowKit

theorem aliveB_no {x : Int} (h0 : ¬ x = 0) (h1 : ¬ x = 1) (h2 : ¬ x = 2) (h3 : ¬ x = 3) : aliveB x = false := by
  rw [Bool.eq_false_iff]
  intro h
  rw [aliveB, inB_true] at h
  omega
set_option maxHeartbeats 1000000 in
theorem implAlive_any (x : Int) (w : World) : Calls Tryz.prog 17 #[.int .i64 x] w fun e w' => e = .returned (.bool (aliveB x)) ∧ w = w' := by
  by_cases h0 : x = 0
  · subst h0
    go_enter Tryz.func17, Tryz.ntmps17
    go_wp2
    all_goals (go_ret; exact ⟨ret_bool (by decide), rfl⟩)
  · by_cases h1 : x = 1
    · subst h1
      go_enter Tryz.func17, Tryz.ntmps17
      go_wp2
      all_goals (go_ret; exact ⟨ret_bool (by decide), rfl⟩)
    · by_cases h2 : x = 2
      · subst h2
        go_enter Tryz.func17, Tryz.ntmps17
        go_wp2
        all_goals (go_ret; exact ⟨ret_bool (by decide), rfl⟩)
      · by_cases h3 : x = 3
        · subst h3
          go_enter Tryz.func17, Tryz.ntmps17
          go_wp2
          all_goals (go_ret; exact ⟨ret_bool (by decide), rfl⟩)
        · go_enter Tryz.func17, Tryz.ntmps17
          go_wp2
          all_goals (go_ret; exact ⟨ret_bool (by rw [aliveB_no h0 h1 h2 h3]), rfl⟩)

end Go.Proofs.YtdkmhaghnfhajaaGreat
