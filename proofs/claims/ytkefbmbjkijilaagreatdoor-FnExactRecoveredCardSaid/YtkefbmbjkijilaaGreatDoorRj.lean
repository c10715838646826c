/-
  How many bytes the records in frames take.
-/
import Derived.Test.YtkefbmbjkijilaaGreatDoorMZ19
set_option linter.unusedVariables false
namespace Go.Proofs.YtkefbmbjkijilaaGreatDoor
open Go.RowKit

theorem getN_dropR {b : List Nat} {n : Nat} {r : List Nat} (h : getN b = some (n, r)) : ∃ k, 0 < k ∧ k ≤ b.length ∧ r = b.drop k := by
  induction b generalizing n r with
  | nil => cases h
  | cons x b ih =>
    by_cases h1 : x < 128
    · rw [getN_last h1] at h
      cases h
      exact ⟨1, by omega, by simp, rfl⟩
    · cases hg : getN b with
      | none => rw [getN_bad h1 hg] at h; cases h
      | some q =>
        obtain ⟨m, r'⟩ := q
        by_cases h0 : m = 0
        · subst h0; rw [getN_nought h1 hg] at h; cases h
        · rw [getN_more h1 hg h0] at h
          cases h
          obtain ⟨k, h2, h3, rfl⟩ := ih hg
          exact ⟨k + 1, by omega, by simpa using h3, rfl⟩
theorem getRec_len {b : List Nat} {x : RecD} {r : List Nat} (h : getRec b = some (x, r)) : r.length + 3 ≤ b.length := by
  unfold getRec at h
  split at h
  · cases h
  rename_i k b1 h1
  split at h
  · cases h
  rename_i a b2 h2
  split at h
  · cases h
  rename_i c b3 h3
  split at h
  · cases h
    obtain ⟨k1, p1, q1, rfl⟩ := getN_dropR h1
    obtain ⟨k2, p2, q2, rfl⟩ := getN_dropR h2
    obtain ⟨k3, p3, q3, rfl⟩ := getN_dropR h3
    simp only [List.length_drop] at *
    omega
  · cases h
theorem getRecs_bytes (n : Nat) : ∀ (b : List Nat) (q : List RecD × List Nat), getRecs n b = some q → 3 * q.1.length + q.2.length ≤ b.length := by
  induction n with
  | zero => intro r q h; cases h; simp
  | succ n ih =>
    intro r q h
    rw [getRecs_succ] at h
    cases h1 : getRec r with
    | none => rw [h1] at h; cases h
    | some p =>
      rw [h1, Option.bind_some] at h
      cases h3 : getRecs n p.2 with
      | none => rw [h3] at h; cases h
      | some s =>
        rw [h3] at h
        cases h
        have e1 := getRec_len h1
        have e2 := ih _ _ h3
        simp only [List.length_cons]
        omega
theorem readN_bytes {b : List Nat} {l : List RecD} (h : readN b = some l) : 3 * l.length ≤ b.length := by
  unfold readN at h
  split at h
  · cases h
  · rename_i n r h1
    obtain ⟨k1, p1, q1, rfl⟩ := getN_dropR h1
    split at h
    · cases h
    · cases h2 : getRecs n (b.drop k1) with
      | none => rw [h2] at h; cases h
      | some q =>
        rw [h2] at h
        have := getRecs_bytes _ _ _ h2
        obtain ⟨l', r'⟩ := q
        dsimp only at h this
        rw [List.length_drop] at this
        split at h
        · cases h; omega
        · cases h
theorem getFrame_read {b : List Nat} {l : List RecD} {k : Nat} (h : getFrame b = some (l, k)) : 3 * l.length ≤ k ∧ l.length ≤ 80 := by
  unfold getFrame at h
  split at h
  · cases h
  split at h
  · cases h
  split at h
  · cases h
  split at h
  · cases h
  rename_i l' h4
  cases h
  have e1 := readN_bytes h4
  have e2 := readD_len ((b.drop 4).take (at2 b 0))
  rw [h4] at e2
  rw [List.length_take] at e1
  exact ⟨by omega, e2⟩
/-- What lies in frames is no more than their bytes. -/
theorem framesN_flat (b : List Nat) : 3 * (framesN b).1.flatten.length ≤ (framesN b).2 := by
  induction hn : b.length using Nat.strongRecOn generalizing b with
  | ind n ih =>
    cases h : getFrame b with
    | none => rw [framesN_none h]; simp
    | some q =>
      obtain ⟨l, k⟩ := q
      have hk := getFrame_len h
      have hr := getFrame_read h
      have h1 := ih (b.drop k).length (by simp; omega) (b.drop k) rfl
      rw [framesN_some h]
      simp only [List.flatten_cons, List.length_append]
      omega
end Go.Proofs.YtkefbmbjkijilaaGreatDoor
