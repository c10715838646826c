/-
  The model's l6With, at a list that rises.
-/
import Derived.Test.YtchippjfpjiimaaUp
set_option linter.unusedVariables false
namespace Go.Proofs.Ytchippjfpjiimaa
open Go.RowKit

theorem withN_low {x : Int} {P : List Int} (Q : List Int) (h : ∀ y ∈ P, y < x) : withN x (P ++ Q) = P ++ withN x Q := by
  induction P with
  | nil => rfl
  | cons y P ih =>
    have hy := h y (by simp)
    have e : withN x (y :: (P ++ Q)) = (if x < y then x :: y :: (P ++ Q) else if x = y then y :: (P ++ Q) else y :: withN x (P ++ Q)) := rfl
    show withN x (y :: (P ++ Q)) = _
    rw [e, if_neg (by omega), if_neg (by omega), ih fun z hz => h z (by simp [hz])]
    rfl
theorem withN_hi {x : Int} {P : List Int} (Q : List Int) (h : ∃ y ∈ P, x ≤ y) : withN x (P ++ Q) = withN x P ++ Q := by
  induction P with
  | nil => simp at h
  | cons y P ih =>
    show withN x (y :: (P ++ Q)) = _
    unfold withN
    by_cases h1 : x < y
    · rw [if_pos h1, if_pos h1]; rfl
    · rw [if_neg h1, if_neg h1]
      by_cases h2 : x = y
      · rw [if_pos h2, if_pos h2]; rfl
      · rw [if_neg h2, if_neg h2]
        obtain ⟨z, hz, hx⟩ := h
        rw [ih ⟨z, by
          rcases List.mem_cons.1 hz with rfl | hz
          · omega
          · exact hz, hx⟩]
        rfl
theorem withN_len (x : Int) (l : List Int) : (withN x l).length ≤ l.length + 1 := by
  induction l with
  | nil => simp [withN]
  | cons y l ih =>
    unfold withN
    split
    · simp
    · split
      · simp
      · simpa using ih
/-- What stands in the list that is being made, behind k elements. -/
def putAt (l : List Int) (x : Int) (k : Nat) (put : Bool) (m : List Int) : Prop :=
  if put then (∃ y ∈ l.take k, x ≤ y) ∧ m = withN x (l.take k) else (∀ y ∈ l.take k, y < x) ∧ m = l.take k
theorem putAt.len {l : List Int} {x : Int} {k : Nat} {put : Bool} {m : List Int} (h : putAt l x k put m) : m.length ≤ l.length + 1 := by
  unfold putAt at h
  split at h
  · rw [h.2]
    refine Nat.le_trans (withN_len _ _) ?_
    rw [List.length_take]
    omega
  · rw [h.2, List.length_take]
    omega
theorem putAt.low {l : List Int} {x y : Int} {k : Nat} {m : List Int} (h : putAt l x k false m) (ht : l.take (k + 1) = l.take k ++ [y]) (hy : y < x) : putAt l x (k + 1) false (m ++ [y]) := by
  obtain ⟨h1, h2⟩ := h
  refine ⟨fun z hz => ?_, by rw [h2, ht]⟩
  rw [ht, List.mem_append] at hz
  rcases hz with hz | hz
  · exact h1 z hz
  · simp at hz; omega
theorem putAt.here {l : List Int} {x y : Int} {k : Nat} {m : List Int} (h : putAt l x k false m) (ht : l.take (k + 1) = l.take k ++ [y]) (hy : x < y) : putAt l x (k + 1) true (m ++ [x] ++ [y]) := by
  obtain ⟨h1, h2⟩ := h
  refine ⟨⟨y, by rw [ht]; simp, by omega⟩, ?_⟩
  rw [ht, withN_low _ h1, h2]
  simp [withN, hy]
theorem putAt.same {l : List Int} {x : Int} {k : Nat} {m : List Int} (h : putAt l x k false m) (ht : l.take (k + 1) = l.take k ++ [x]) : putAt l x (k + 1) true (m ++ [x]) := by
  obtain ⟨h1, h2⟩ := h
  refine ⟨⟨x, by rw [ht]; simp, by omega⟩, ?_⟩
  rw [ht, withN_low _ h1, h2]
  simp [withN]
theorem putAt.more {l : List Int} {x y : Int} {k : Nat} {m : List Int} (h : putAt l x k true m) (ht : l.take (k + 1) = l.take k ++ [y]) : putAt l x (k + 1) true (m ++ [y]) := by
  obtain ⟨⟨z, hz, hx⟩, h2⟩ := h
  refine ⟨⟨z, by rw [ht]; simp [hz], hx⟩, ?_⟩
  rw [ht, withN_hi _ ⟨z, hz, hx⟩, h2]
theorem putAt.above {l : List Int} {x y : Int} {k : Nat} {m : List Int} (h : putAt l x k true m) (ht : l.take (k + 1) = l.take k ++ [y]) (hr : l.Pairwise (· < ·)) : x < y := by
  obtain ⟨⟨z, hz, hx⟩, -⟩ := h
  have h1 : (l.take (k + 1)).Pairwise (· < ·) := hr.sublist (List.take_sublist _ _)
  rw [ht, List.pairwise_append] at h1
  have := h1.2.2 z hz y (by simp)
  omega

end Go.Proofs.Ytchippjfpjiimaa
