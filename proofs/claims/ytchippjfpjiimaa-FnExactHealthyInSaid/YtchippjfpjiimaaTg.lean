/-
  Orders as data (chapters 8 to 13), and what they make of a state from the shutting on.
-/
import Derived.Test.YtchippjfpjiimaaTf
set_option linter.unusedVariables false
namespace Go.Proofs.Ytchippjfpjiimaa
open Go.RowKit

/-- Chapter 8, of a right state. -/
def healthyN (d : PlanD) (s : StD) (g : Int) : Int := ((List.range d.n0).countP fun i => decide (d.x0 (i * 4) = g) && decide ((podAt s i).1 = 0) : Nat)
def mayEvictB (d : PlanD) (s : StD) (i : Int) : Bool :=
  decide (s.ph = 2) && inB i 0 (d.n0 - 1) && decide ((podAt s i.toNat).1 = 0) && decide (d.x1 (d.x0 (i.toNat * 4)).toNat < healthyN d s (d.x0 (i.toNat * 4)))

/-- Chapter 10, of a right state: the records and the code. -/
def noR (c : Int) : List RecD × Int := ([], c)
def oneR (k a b : Int) : List RecD × Int := ([⟨k, a, b⟩], 0)
def phaseD (s : StD) (f t : Int) : List RecD × Int := if s.ph = f then oneR 1 t 0 else noR 3
def evictD (d : PlanD) (s : StD) (a : Int) : List RecD × Int :=
  if inB a 0 (d.n0 - 1) = false then noR 2 else if s.ph ≠ 2 then noR 3 else if (podAt s a.toNat).1 ≠ 0 then noR 4 else if mayEvictB d s a = false then noR 5 else oneR 2 a 6
def shutD (d : PlanD) (s : StD) : List RecD × Int :=
  if s.ph = 1 ∨ s.ph = 2 then ([⟨11, min (s.ck + d.l) 1000000, 0⟩, ⟨9, nextB d (-1), 0⟩, ⟨1, 3, 0⟩], 0) else noR 3
def cancelD (s : StD) : List RecD × Int := if s.ph = 2 then oneR 1 0 0 else phaseD s 1 0
def lockD (s : StD) (a : Int) : List RecD × Int := if inB a 0 7 = false then noR 2 else if 3 ≤ s.ph then noR 3 else if s.lks.contains a then noR 4 else oneR 6 a 0
def unlockD (s : StD) (a : Int) : List RecD × Int := if inB a 0 7 = false then noR 2 else if s.lks.contains a = false then noR 4 else oneR 7 a 0
def toldD (d : PlanD) (s : StD) (f : Int → Int) (a : Int) : List RecD × Int := if inB a 0 (d.n0 - 1) = false then noR 2 else if f (podAt s a.toNat).1 < 0 then noR 4 else oneR 2 a (f (podAt s a.toNat).1)
def busyD (d : PlanD) (s : StD) (a b : Int) : List RecD × Int :=
  if inB a 0 (d.n2 - 1) = false then noR 2 else if inB b 1 5 = false then noR 1 else if 4 ≤ s.ph then noR 3 else if (mntAt s a.toNat).1 = false ∨ (mntAt s a.toNat).2 ≠ 0 then noR 4 else oneR 3 a b
def commandD (d : PlanD) (s : StD) (k a b : Int) : List RecD × Int :=
  if k = 1 then phaseD s 0 1 else if k = 2 then phaseD s 1 2 else if k = 3 then evictD d s a else if k = 4 then shutD d s else if k = 5 then cancelD s else if k = 6 then lockD s a else if k = 7 then unlockD s a
  else if k = 8 then toldD d s afterHook a else if k = 9 then toldD d s afterExit a else if k = 10 then busyD d s a b else noR 1

theorem told_hook {x : Int} (h : ¬ afterHook x < 0) : x = 1 ∧ afterHook x = 2 := by
  unfold afterHook at h ⊢
  split at h
  · rename_i e; exact ⟨e, if_pos e⟩
  · omega
theorem told_exit {x : Int} (h : ¬ afterExit x < 0) : (x = 0 ∨ x = 1 ∨ x = 2 ∨ x = 3) ∧ (afterExit x = 4 ∨ afterExit x = 5) := by
  unfold afterExit at h ⊢
  split at h
  · rename_i e; exact ⟨by omega, .inr (if_pos e)⟩
  · rename_i e
    split at h
    · rename_i e2; exact ⟨by omega, .inl (by rw [if_neg e, if_pos e2])⟩
    · omega

/-- What is not refused goes, and keeps a state right (promise 10). -/
theorem command_run {d : PlanD} {s : StD} {k a b : Int} (h : StOk d s) (hc : (commandD d s k a b).2 = 0) : ∃ x, runR d s (commandD d s k a b).1 = some x ∧ StOk d x := by
  have key : ∀ r : RecD, recOkB r = true → thereB s r = true → StOk d (applyR s r) → ∃ x, runR d s [r] = some x ∧ StOk d x := fun r h1 h2 h3 => ⟨_, runR_one (goodR_of h1 h2 h3), h3⟩
  have hl := planOk_lock h.plan
  unfold commandD at hc ⊢
  split at hc
  · rename_i e; subst e
    rw [if_pos rfl]
    unfold phaseD at hc ⊢
    split at hc
    · rename_i e2; rw [if_pos e2]; exact key _ (by decide) rfl (ok_phase h (by decide))
    · exact absurd hc (by decide)
  · rename_i e1; rw [if_neg e1]
    split at hc
    · rename_i e; rw [if_pos e]
      unfold phaseD at hc ⊢
      split at hc
      · rename_i e2; rw [if_pos e2]; exact key _ (by decide) rfl (ok_phase h (by decide))
      · exact absurd hc (by decide)
    · rename_i e2; rw [if_neg e2]
      split at hc
      · rename_i e; rw [if_pos e]
        unfold evictD at hc ⊢
        split at hc
        · exact absurd hc (by decide)
        · rename_i n1; rw [if_neg n1]
          split at hc
          · exact absurd hc (by decide)
          · rename_i n2; rw [if_neg n2]
            split at hc
            · exact absurd hc (by decide)
            · rename_i n3; rw [if_neg n3]
              split at hc
              · exact absurd hc (by decide)
              · rename_i n4; rw [if_neg n4]
                have hb := inB_true.1 (Bool.of_not_eq_false n1)
                have hnp := h.np
                exact key _ (by rw [recOkB_true]; simp only []; omega) (by simp [thereB]; omega) (ok_pod h (by decide))
      · rename_i e3; rw [if_neg e3]
        split at hc
        · rename_i e; rw [if_pos e]
          unfold shutD at hc ⊢
          split at hc
          · rename_i e4; rw [if_pos e4]; exact ⟨_, shut_run h, shut_ok h⟩
          · exact absurd hc (by decide)
        · rename_i e4; rw [if_neg e4]
          split at hc
          · rename_i e; rw [if_pos e]
            unfold cancelD phaseD at hc ⊢
            split at hc
            · rename_i e5; rw [if_pos e5]; exact key _ (by decide) rfl (ok_idle h)
            · rename_i e5; rw [if_neg e5]
              split at hc
              · rename_i e6; rw [if_pos e6]; exact key _ (by decide) rfl (ok_idle h)
              · exact absurd hc (by decide)
          · rename_i e5; rw [if_neg e5]
            split at hc
            · rename_i e; rw [if_pos e]
              unfold lockD at hc ⊢
              split at hc
              · exact absurd hc (by decide)
              · rename_i n1; rw [if_neg n1]
                split at hc
                · exact absurd hc (by decide)
                · rename_i n2; rw [if_neg n2]
                  split at hc
                  · exact absurd hc (by decide)
                  · rename_i n3; rw [if_neg n3]
                    have hb := inB_true.1 (Bool.of_not_eq_false n1)
                    exact key _ (by rw [recOkB_true]; simp only []; omega) rfl (ok_lock h hb)
            · rename_i e6; rw [if_neg e6]
              split at hc
              · rename_i e; rw [if_pos e]
                unfold unlockD at hc ⊢
                split at hc
                · exact absurd hc (by decide)
                · rename_i n1; rw [if_neg n1]
                  split at hc
                  · exact absurd hc (by decide)
                  · rename_i n2; rw [if_neg n2]
                    have hb := inB_true.1 (Bool.of_not_eq_false n1)
                    exact key _ (by rw [recOkB_true]; simp only []; omega) rfl (ok_unlock h)
              · rename_i e7; rw [if_neg e7]
                split at hc
                · rename_i e; rw [if_pos e]
                  unfold toldD at hc ⊢
                  split at hc
                  · exact absurd hc (by decide)
                  · rename_i n1; rw [if_neg n1]
                    split at hc
                    · exact absurd hc (by decide)
                    · rename_i n2; rw [if_neg n2]
                      have hb := inB_true.1 (Bool.of_not_eq_false n1)
                      have hnp := h.np
                      have ht := told_hook n2
                      exact key _ (by rw [recOkB_true]; simp only []; omega) (by simp [thereB]; omega) (ok_pod h (by omega))
                · rename_i e8; rw [if_neg e8]
                  split at hc
                  · rename_i e; rw [if_pos e]
                    unfold toldD at hc ⊢
                    split at hc
                    · exact absurd hc (by decide)
                    · rename_i n1; rw [if_neg n1]
                      split at hc
                      · exact absurd hc (by decide)
                      · rename_i n2; rw [if_neg n2]
                        have hb := inB_true.1 (Bool.of_not_eq_false n1)
                        have hnp := h.np
                        have ht := told_exit n2
                        exact key _ (by rw [recOkB_true]; simp only []; omega) (by simp [thereB]; omega) (ok_pod h (by omega))
                  · rename_i e9; rw [if_neg e9]
                    split at hc
                    · rename_i e; rw [if_pos e]
                      unfold busyD at hc ⊢
                      split at hc
                      · exact absurd hc (by decide)
                      · rename_i n1; rw [if_neg n1]
                        split at hc
                        · exact absurd hc (by decide)
                        · rename_i n2; rw [if_neg n2]
                          split at hc
                          · exact absurd hc (by decide)
                          · rename_i n3; rw [if_neg n3]
                            split at hc
                            · exact absurd hc (by decide)
                            · rename_i n4; rw [if_neg n4]
                              have hb := inB_true.1 (Bool.of_not_eq_false n1)
                              have hb2 := inB_true.1 (Bool.of_not_eq_false n2)
                              have hnm := h.nm
                              have hh : (s.mnts.getD a.toNat (false, 0)).1 = true := Bool.of_not_eq_false fun x => n4 (.inl x)
                              exact key _ (by rw [recOkB_true]; simp only []; omega) (by simp [thereB]; omega) (ok_busy h (by omega) hh)
                    · exact absurd hc (by decide)
end Go.Proofs.Ytchippjfpjiimaa
