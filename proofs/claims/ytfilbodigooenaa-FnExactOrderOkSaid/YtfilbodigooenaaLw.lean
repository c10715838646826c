/-
  Orders, of the model: how many numbers a kind has, OrderOk.
-/
import Derived.Test.YtfilbodigooenaaA0
import Derived.Lib.Hide
set_option linter.unusedVariables false
namespace Go.Proofs.Ytfilbodigooenaa
open Go.RowKit

theorem fieldO_any (x : Int) (w : World) :
    Calls Try.prog 8 #[.int .i64 x] w fun e w' => e = .returned (.bool (inB x 0 1000000)) ∧ w = w' := by
  go_enter Try.func8, Try.ntmps8
  go_wp2_with (go_at_call 7; refine (in_any _ _ _ _).mono ?_; rintro e w' ⟨rfl, rfl⟩)
  go_ret
  exact ⟨rfl, rfl⟩
def argsN (k : Int) : Int := if k = 3 ∨ k = 6 ∨ k = 7 ∨ k = 8 ∨ k = 9 ∨ k = 12 ∨ k = 13 then 1 else if k = 10 then 2 else 0
def orderOkB (k a b : Int) : Bool := inB k 1 13 && inB a 0 1000000 && inB b 0 1000000 && !(decide (argsN k < 1) && a != 0 || decide (argsN k < 2) && b != 0) && (k != 13 || decide (a ≤ 1))
abbrev ordC (k a b : Int) : Array Value := #[.int .i64 k, .int .i64 a, .int .i64 b]

set_option maxHeartbeats 4000000 in
theorem l13Args_any (k : Int) (w : World) : Calls Try.prog 9 #[.int .i64 k] w fun e w' => e = .returned (.int .i64 (argsN k)) ∧ w = w' := by
  have HH : Hid (argsN k = if k = 3 ∨ k = 6 ∨ k = 7 ∨ k = 8 ∨ k = 9 ∨ k = 12 ∨ k = 13 then 1 else if k = 10 then 2 else 0) := Lib.hid rfl
  by_cases e3 : k = 3
  · subst e3
    go_enter Try.func9, Try.ntmps9
    go_wp2
    all_goals (go_ret; exact ⟨by rw [HH.out]; rfl, rfl⟩)
  · have E3 := Lib.hid e3
    by_cases e6 : k = 6
    · subst e6
      go_enter Try.func9, Try.ntmps9
      go_wp2
      all_goals (go_ret; exact ⟨by rw [HH.out]; rfl, rfl⟩)
    · have E6 := Lib.hid e6
      by_cases e7 : k = 7
      · subst e7
        go_enter Try.func9, Try.ntmps9
        go_wp2
        all_goals (go_ret; exact ⟨by rw [HH.out]; rfl, rfl⟩)
      · have E7 := Lib.hid e7
        by_cases e8 : k = 8
        · subst e8
          go_enter Try.func9, Try.ntmps9
          go_wp2
          all_goals (go_ret; exact ⟨by rw [HH.out]; rfl, rfl⟩)
        · have E8 := Lib.hid e8
          by_cases e9 : k = 9
          · subst e9
            go_enter Try.func9, Try.ntmps9
            go_wp2
            all_goals (go_ret; exact ⟨by rw [HH.out]; rfl, rfl⟩)
          · have E9 := Lib.hid e9
            by_cases e12 : k = 12
            · subst e12
              go_enter Try.func9, Try.ntmps9
              go_wp2
              all_goals (go_ret; exact ⟨by rw [HH.out]; rfl, rfl⟩)
            · have E12 := Lib.hid e12
              by_cases e13 : k = 13
              · subst e13
                go_enter Try.func9, Try.ntmps9
                go_wp2
                all_goals (go_ret; exact ⟨by rw [HH.out]; rfl, rfl⟩)
              · have E13 := Lib.hid e13
                by_cases e10 : k = 10
                · subst e10
                  go_enter Try.func9, Try.ntmps9
                  go_wp2
                  all_goals (go_ret; exact ⟨by rw [HH.out]; rfl, rfl⟩)
                · have E10 := Lib.hid e10
                  go_enter Try.func9, Try.ntmps9
                  go_wp2
                  all_goals (go_ret; exact ⟨by rw [HH.out]; simp [E3.out, E6.out, E7.out, E8.out, E9.out, E12.out, E13.out, E10.out], rfl⟩)
theorem argsN_cases (k : Int) : argsN k = 0 ∨ argsN k = 1 ∨ argsN k = 2 := by
  unfold argsN
  split
  · simp
  · split <;> simp
set_option maxRecDepth 4000 in
set_option maxHeartbeats 8000000 in
theorem orderOk_any (k a b : Int) (w : World) : Calls Try.prog 4 #[.agg (ordC k a b)] w fun e w' => e = .returned (.bool (orderOkB k a b)) ∧ Below w.heap.size w w' := by
  obtain ⟨ans, hans⟩ : ∃ ans, orderOkB k a b = ans := ⟨_, rfl⟩
  rw [hans]
  have hn := argsN_cases k
  unfold orderOkB at hans
  generalize hN : argsN k = n at hans hn
  have HN := Lib.hid hN
  have HANS := Lib.hid hans
  clear hans hN
  have K := (Below.refl w.heap.size w).alloc (Nat.le_refl _) (.cells (ordC k a b) 25)
  go_enter Try.func4, Try.ntmps4
  go_wp2_with fail
  refine (in_any _ _ _ _).mono ?_
  rintro e w1 ⟨rfl, rfl⟩
  cases h1 : inB k 1 13
  · have H1 := Lib.hid h1
    clear h1
    go_wp2
    all_goals (go_ret; exact ⟨ret_bool (by rw [← HANS.out, H1.out]; simp), K⟩)
  · have H1 := Lib.hid h1
    clear h1
    go_wp2_with fail
    refine (fieldO_any _ _).mono ?_
    rintro e w1 ⟨rfl, rfl⟩
    cases h2 : inB a 0 1000000
    · have H2 := Lib.hid h2
      clear h2
      go_wp2
      all_goals (go_ret; exact ⟨ret_bool (by rw [← HANS.out, H2.out]; simp), K⟩)
    · have H2 := Lib.hid h2
      clear h2
      go_wp2_with fail
      refine (fieldO_any _ _).mono ?_
      rintro e w1 ⟨rfl, rfl⟩
      cases h3 : inB b 0 1000000
      · have H3 := Lib.hid h3
        clear h3
        go_wp2
        all_goals (go_ret; exact ⟨ret_bool (by rw [← HANS.out, H3.out]; simp), K⟩)
      · have H3 := Lib.hid h3
        clear h3
        have HANS2 : Hid (ans = (!(decide (n < 1) && a != 0 || decide (n < 2) && b != 0) && (k != 13 || decide (a ≤ 1)))) := Lib.hid (by rw [← HANS.out, H1.out, H2.out, H3.out]; simp)
        clear HANS H1 H2 H3
        go_wp2_with fail
        refine (l13Args_any _ _).mono ?_
        rw [HN.out]
        rintro e w1 ⟨rfl, rfl⟩
        clear HN
        cases h13 : (k != 13)
        all_goals cases ha : (a != 0)
        all_goals cases hb : (b != 0)
        all_goals by_cases hle : a ≤ 1
        all_goals
          have G13 := Lib.hid h13
          have GA := Lib.hid ha
          have GB := Lib.hid hb
          have GL := Lib.hid hle
          rcases hn with rfl | rfl | rfl
        all_goals
          go_wp2
          all_goals (go_ret; exact ⟨ret_bool (by rw [HANS2.out, G13.out, GA.out, GB.out]; have := GL.out; simp; try omega), K⟩)

end Go.Proofs.Ytfilbodigooenaa
