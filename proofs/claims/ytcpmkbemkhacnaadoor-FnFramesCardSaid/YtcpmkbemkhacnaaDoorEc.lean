/-
  The model's ReadFrames.
-/
import Derived.Test.YtcpmkbemkhacnaaDoorEa
import Derived.Test.YtcpmkbemkhacnaaDoorEb
import Derived.Test.YtcpmkbemkhacnaaDoorBgS
set_option linter.unusedVariables false
namespace Go.Proofs.YtcpmkbemkhacnaaDoor
open Go.RowKit

/-- What ReadFrames answers of the bytes L. -/
def ReadAll (L : List Nat) (w : World) (e : Ending) (w' : World) : Prop :=
  ∃ v, e = .returned (.tuple #[v, .int .i64 ((framesN L).2 : Nat)]) ∧ OS w' w.heap.size v (framesN L).1 ∧ Below w.heap.size w w'
theorem getFrame_short {L : List Nat} (h : L.length < 4) : getFrame L = none := by unfold getFrame; rw [if_pos h]
theorem getFrame_cut {L : List Nat} (h : L.length < 4 + at2 L 0) : getFrame L = none := by
  unfold getFrame
  by_cases h4 : L.length < 4
  · rw [if_pos h4]
  · rw [if_neg h4, if_pos h]
theorem getFrame_sum {L : List Nat} (h : sumN ((L.drop 4).take (at2 L 0)) ≠ at2 L 2) : getFrame L = none := by
  unfold getFrame
  by_cases h4 : L.length < 4
  · rw [if_pos h4]
  · by_cases h5 : L.length < 4 + at2 L 0
    · rw [if_neg h4, if_pos h5]
    · rw [if_neg h4, if_neg h5, if_pos h]
theorem getFrame_bad {L : List Nat} (h : readN ((L.drop 4).take (at2 L 0)) = none) : getFrame L = none := by
  unfold getFrame
  by_cases h4 : L.length < 4
  · rw [if_pos h4]
  · by_cases h5 : L.length < 4 + at2 L 0
    · rw [if_neg h4, if_pos h5]
    · by_cases h6 : sumN ((L.drop 4).take (at2 L 0)) ≠ at2 L 2
      · rw [if_neg h4, if_neg h5, if_pos h6]
      · rw [if_neg h4, if_neg h5, if_neg h6, h]
theorem getFrame_good {L : List Nat} {l : List RecD} (h : 4 + at2 L 0 ≤ L.length) (hs : sumN ((L.drop 4).take (at2 L 0)) = at2 L 2) (hr : readN ((L.drop 4).take (at2 L 0)) = some l) : getFrame L = some (l, 4 + at2 L 0) := by
  unfold getFrame
  rw [if_neg (by omega), if_neg (by omega), if_neg (by simp [hs]), hr]

/-- So far it has come: p bytes, the lists done. -/
structure SoFar (L : List Nat) (p : Nat) (done : List (List RecD)) : Prop where
  le : p ≤ L.length
  short : done.length ≤ p
  it : framesN L = (done ++ (framesN (L.drop p)).1, p + (framesN (L.drop p)).2)
theorem SoFar.start (L : List Nat) : SoFar L 0 [] := ⟨Nat.zero_le _, Nat.le_refl _, by simp⟩
theorem SoFar.stop {L : List Nat} {p : Nat} {done : List (List RecD)} (h : SoFar L p done) (hg : getFrame (L.drop p) = none) : (framesN L).1 = done ∧ (framesN L).2 = p := by
  rw [h.it, framesN_none hg]
  simp
theorem SoFar.step {L : List Nat} {p k : Nat} {l : List RecD} {done : List (List RecD)} (h : SoFar L p done) (hg : getFrame (L.drop p) = some (l, k)) : SoFar L (p + k) (done ++ [l]) := by
  have hk := getFrame_len hg
  have hs := h.short
  rw [List.length_drop] at hk
  have hl := h.le
  refine ⟨by omega, by rw [List.length_append, List.length_singleton]; omega, ?_⟩
  rw [h.it, framesN_some hg, List.drop_drop]
  simp
  omega
end Go.Proofs.YtcpmkbemkhacnaaDoor
