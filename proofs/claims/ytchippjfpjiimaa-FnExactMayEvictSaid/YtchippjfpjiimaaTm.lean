/-
  Budgets as data (chapter 8): who may be evicted is one more than must be left.
-/
import Derived.Test.YtchippjfpjiimaaTh
set_option linter.unusedVariables false
namespace Go.Proofs.Ytchippjfpjiimaa
open Go.RowKit

theorem count_flip {P Q : Nat → Bool} {i : Nat} (hP : P i = true) (hQ : Q i = false) (h : ∀ j, j ≠ i → P j = Q j) : ∀ n, (List.range n).countP P = (List.range n).countP Q + if i < n then 1 else 0
  | 0 => by simp
  | n + 1 => by
    have ih := count_flip hP hQ h n
    have e1 : (List.range (n + 1)).countP P = (List.range n).countP P + if P n then 1 else 0 := by rw [List.range_succ, List.countP_append, List.countP_singleton]
    have e2 : (List.range (n + 1)).countP Q = (List.range n).countP Q + if Q n then 1 else 0 := by rw [List.range_succ, List.countP_append, List.countP_singleton]
    rw [e1, e2, ih]
    by_cases e : n = i
    · subst e
      have a1 : (if n < n then 1 else 0) = 0 := if_neg (by omega)
      have a2 : (if n < n + 1 then 1 else 0) = 1 := if_pos (by omega)
      rw [a1, a2, hP, hQ]
      simp
    · rw [h n e]
      have a3 : (if i < n + 1 then 1 else 0) = if i < n then 1 else 0 := by
        by_cases e2 : i < n
        · rw [if_pos e2, if_pos (by omega)]
        · rw [if_neg e2, if_neg (by omega)]
      rw [a3]
      omega
theorem mayEvict_true {d : PlanD} {s : StD} {a : Int} (h : mayEvictB d s a = true) : ∃ i : Nat, a = i ∧ i < d.n0 ∧ s.ph = 2 ∧ (podAt s i).1 = 0 ∧ d.x1 (d.x0 (i * 4)).toNat < healthyN d s (d.x0 (i * 4)) := by
  simp only [mayEvictB, Bool.and_eq_true, decide_eq_true_eq, inB_true] at h
  obtain ⟨⟨⟨h1, h2⟩, h3⟩, h4⟩ := h
  refine ⟨a.toNat, by omega, by omega, h1, h3, h4⟩
/-- Promise 8: behind an eviction that may be there are as many left as must be. -/
theorem evict_left {d : PlanD} {s : StD} {i : Nat} (h : StOk d s) (hi : i < d.n0) (h0 : (podAt s i).1 = 0) (hm : d.x1 (d.x0 (i * 4)).toNat < healthyN d s (d.x0 (i * 4))) :
    goodR d s ⟨2, i, 6⟩ = true ∧ StOk d (applyR s ⟨2, i, 6⟩) ∧ (applyR s ⟨2, i, 6⟩).ph = s.ph ∧ d.x1 (d.x0 (i * 4)).toNat ≤ healthyN d (applyR s ⟨2, i, 6⟩) (d.x0 (i * 4)) := by
  have hl := planOk_lock h.plan
  have hok : StOk d (applyR s ⟨2, i, 6⟩) := ok_pod h (by decide)
  have hn : i < s.pods.length := by rw [h.np]; exact hi
  have hat : ∀ j, podAt (applyR s ⟨2, i, 6⟩) j = if j = i then (6, s.ck) else podAt s j := fun j => by
    simp only [podAt, applyR]
    by_cases e : j = i
    · subst e
      simp [List.getD, hn]
    · simp [List.getD, Ne.symm e, e]
  have hc := count_flip (P := fun j => decide (d.x0 (j * 4) = d.x0 (i * 4)) && decide ((podAt s j).1 = 0)) (Q := fun j => decide (d.x0 (j * 4) = d.x0 (i * 4)) && decide ((podAt (applyR s ⟨2, i, 6⟩) j).1 = 0)) (i := i)
    (by simp [h0]) (by simp [hat]) (fun j hj => by simp [hat, hj]) d.n0
  rw [if_pos hi] at hc
  refine ⟨goodR_of (by rw [recOkB_true]; simp only []; omega) (by simp [thereB, hn]) hok, hok, rfl, ?_⟩
  unfold healthyN at hm ⊢
  omega
end Go.Proofs.Ytchippjfpjiimaa
