/-
  How much can lie in frames.
-/
import Derived.Test.YtcpmkbemkhacnaaDoorEd
import Derived.Test.YtcpmkbemkhacnaaDoorEf
set_option linter.unusedVariables false
namespace Go.Proofs.YtcpmkbemkhacnaaDoor
open Go.RowKit

theorem getRec_len {b : List Nat} {x : RecD} {r : List Nat} (h : getRec b = some (x, r)) : r.length + 3 ≤ b.length := by
  unfold getRec at h
  split at h
  · cases h
  rename_i k b1 h1
  split at h
  · cases h
  rename_i a b2 h2
  split at h
  · cases h
  rename_i c b3 h3
  split at h
  · cases h
    obtain ⟨k1, p1, q1, rfl⟩ := getN_drop h1
    obtain ⟨k2, p2, q2, rfl⟩ := getN_drop h2
    obtain ⟨k3, p3, q3, rfl⟩ := getN_drop h3
    simp only [List.length_drop] at *
    omega
  · cases h
theorem getRecs_bytes (n : Nat) : ∀ (b : List Nat) (q : List RecD × List Nat), getRecs n b = some q → 3 * q.1.length + q.2.length ≤ b.length := by
  induction n with
  | zero => intro r q h; cases h; simp
  | succ n ih =>
    intro r q h
    rw [getRecs_succ] at h
    cases h1 : getRec r with
    | none => rw [h1] at h; cases h
    | some p =>
      rw [h1, Option.bind_some] at h
      cases h3 : getRecs n p.2 with
      | none => rw [h3] at h; cases h
      | some s =>
        rw [h3] at h
        cases h
        have e1 := getRec_len h1
        have e2 := ih _ _ h3
        simp only [List.length_cons]
        omega
theorem readN_bytes {b : List Nat} {l : List RecD} (h : readN b = some l) : 3 * l.length ≤ b.length := by
  unfold readN at h
  split at h
  · cases h
  · rename_i n r h1
    obtain ⟨k1, p1, q1, rfl⟩ := getN_drop h1
    split at h
    · cases h
    · cases h2 : getRecs n (b.drop k1) with
      | none => rw [h2] at h; cases h
      | some q =>
        rw [h2] at h
        have := getRecs_bytes _ _ _ h2
        obtain ⟨l', r'⟩ := q
        dsimp only at h this
        rw [List.length_drop] at this
        split at h
        · cases h; omega
        · cases h
theorem getFrame_read {b : List Nat} {l : List RecD} {k : Nat} (h : getFrame b = some (l, k)) : 3 * l.length ≤ k ∧ l.length ≤ 80 := by
  unfold getFrame at h
  split at h
  · cases h
  split at h
  · cases h
  split at h
  · cases h
  split at h
  · cases h
  rename_i l' h4
  cases h
  have e1 := readN_bytes h4
  have e2 := readD_len ((b.drop 4).take (at2 b 0))
  rw [h4] at e2
  rw [List.length_take] at e1
  exact ⟨by omega, e2⟩
theorem total_cons (l : List RecD) (ls : List (List RecD)) : total (l :: ls) = l.length + total ls := by simp [total]
/-- What lies in frames is no more than their bytes. -/
theorem framesN_small (b : List Nat) : 3 * total (framesN b).1 ≤ (framesN b).2 ∧ (framesN b).1.length ≤ (framesN b).2 ∧ ∀ i, (listAt (framesN b).1 i).length ≤ 80 := by
  induction hn : b.length using Nat.strongRecOn generalizing b with
  | ind n ih =>
    cases h : getFrame b with
    | none => rw [framesN_none h]; exact ⟨by simp [total], by simp, fun i => by simp [listAt]⟩
    | some q =>
      obtain ⟨l, k⟩ := q
      have hk := getFrame_len h
      have hr := getFrame_read h
      obtain ⟨h1, h2, h3⟩ := ih (b.drop k).length (by simp; omega) (b.drop k) rfl
      rw [framesN_some h]
      refine ⟨by dsimp only; rw [total_cons]; omega, by simp only [List.length_cons]; omega, fun i => ?_⟩
      cases i with
      | zero => exact hr.2
      | succ i => exact h3 i
end Go.Proofs.YtcpmkbemkhacnaaDoor
