/-
  Frames: what is written, what is read, what is torn.
-/
import Derived.Test.YtcpmkbemkhacnaaDoorRa
set_option linter.unusedVariables false
namespace Go.Proofs.YtcpmkbemkhacnaaDoor
open Go.RowKit

def sumN (b : List Nat) : Nat := b.foldl (fun n x => (31 * n + x) % 65521) 7
theorem sumN_lt (b : List Nat) : sumN b < 65521 := by
  have : ∀ (b : List Nat) (a : Nat), a < 65521 → b.foldl (fun n x => (31 * n + x) % 65521) a < 65521 := fun b => by
    induction b with
    | nil => exact fun a h => h
    | cons x b ih => exact fun a _ => ih _ (Nat.mod_lt _ (by omega))
  exact this b 7 (by omega)
def twoN (n : Nat) : List Nat := [n % 256, n / 256]
def frameN (b : List Nat) : List Nat := twoN b.length ++ (twoN (sumN b) ++ b)
theorem frameN_length (b : List Nat) : (frameN b).length = 4 + b.length := by simp [frameN, twoN]; omega
/-- What is framed of records. -/
def framedN (l : List RecD) : Option (List Nat) := (writeN l).map frameN
def at2 (b : List Nat) (i : Nat) : Nat := b.getD i 0 + 256 * b.getD (i + 1) 0
/-- The frame ahead: its records, and how long it is. -/
def getFrame (b : List Nat) : Option (List RecD × Nat) :=
  if b.length < 4 then none else
  if b.length < 4 + at2 b 0 then none else
  if sumN ((b.drop 4).take (at2 b 0)) ≠ at2 b 2 then none else
  match readN ((b.drop 4).take (at2 b 0)) with
  | none => none
  | some l => some (l, 4 + at2 b 0)
theorem getFrame_len {b : List Nat} {l : List RecD} {k : Nat} (h : getFrame b = some (l, k)) : 4 ≤ k ∧ k ≤ b.length := by
  unfold getFrame at h
  split at h
  · cases h
  split at h
  · cases h
  split at h
  · cases h
  split at h
  · cases h
  cases h
  omega
/-- All frames ahead, as far as they are whole: their lists, and how many bytes they are. -/
def framesN (b : List Nat) : List (List RecD) × Nat :=
  match h : getFrame b with
  | none => ([], 0)
  | some (l, k) => (l :: (framesN (b.drop k)).1, k + (framesN (b.drop k)).2)
termination_by b.length
decreasing_by all_goals (have := getFrame_len h; simp; omega)
theorem framesN_none {b : List Nat} (h : getFrame b = none) : framesN b = ([], 0) := by
  rw [framesN]
  split
  · rfl
  · rename_i e; rw [h] at e; cases e
theorem framesN_some {b : List Nat} {l : List RecD} {k : Nat} (h : getFrame b = some (l, k)) : framesN b = (l :: (framesN (b.drop k)).1, k + (framesN (b.drop k)).2) := by
  rw [framesN]
  split
  · rename_i e; rw [h] at e; cases e
  · rename_i l' k' e
    rw [h] at e
    cases e
    rfl
theorem framesN_le (b : List Nat) : (framesN b).2 ≤ b.length := by
  induction hn : b.length using Nat.strongRecOn generalizing b with
  | ind n ih =>
    cases h : getFrame b with
    | none => rw [framesN_none h]; exact Nat.zero_le _
    | some q =>
      obtain ⟨l, k⟩ := q
      rw [framesN_some h]
      have := getFrame_len h
      have := ih (b.drop k).length (by simp; omega) (b.drop k) rfl
      simp at this ⊢
      omega
theorem framesN_short {b : List Nat} (h : b.length < 4) : framesN b = ([], 0) := framesN_none (by unfold getFrame; rw [if_pos h])
theorem framesN_nil : framesN [] = ([], 0) := framesN_short (by simp)

theorem getFrame_more {b c : List Nat} {l : List RecD} {k : Nat} (h : getFrame b = some (l, k)) : getFrame (b ++ c) = some (l, k) := by
  unfold getFrame at h
  split at h
  · cases h
  rename_i h1
  have g : ∀ i, i < b.length → (b ++ c).getD i 0 = b.getD i 0 := fun i hi => by simp [List.getD, List.getElem?_append_left hi]
  have e0 : at2 (b ++ c) 0 = at2 b 0 := by unfold at2; rw [g 0 (by omega), g 1 (by omega)]
  have e2 : at2 (b ++ c) 2 = at2 b 2 := by unfold at2; rw [g 2 (by omega), g 3 (by omega)]
  split at h
  · cases h
  rename_i h2
  have e3 : ((b ++ c).drop 4).take (at2 b 0) = (b.drop 4).take (at2 b 0) := by
    rw [List.drop_append_of_le_length (by omega), List.take_append_of_le_length (by simp; omega)]
  split at h
  · cases h
  rename_i h3
  split at h
  · cases h
  rename_i l' h4
  cases h
  unfold getFrame
  rw [if_neg (by simp; omega), e0, if_neg (by simp; omega), e3, e2, if_neg h3, h4]
/-- What is whole stays so, whatever comes behind. -/
theorem framesN_append {b c : List Nat} (h : (framesN b).2 = b.length) : framesN (b ++ c) = ((framesN b).1 ++ (framesN c).1, b.length + (framesN c).2) := by
  induction hn : b.length using Nat.strongRecOn generalizing b with
  | ind n ih =>
    cases hg : getFrame b with
    | none =>
      rw [framesN_none hg] at h
      have : b = [] := List.eq_nil_of_length_eq_zero h.symm
      subst this
      simp at hn
      subst hn
      rw [framesN_nil]
      simp
    | some q =>
      obtain ⟨l, k⟩ := q
      have hk := getFrame_len hg
      rw [framesN_some hg] at h ⊢
      have h' : (framesN (b.drop k)).2 = (b.drop k).length := by simp at h ⊢; omega
      have e := ih (b.drop k).length (by simp; omega) h' rfl
      rw [framesN_some (getFrame_more hg), List.drop_append_of_le_length hk.2, e]
      simp
      omega

theorem at2_frame0 (b c : List Nat) : at2 (frameN b ++ c) 0 = b.length := by
  simp [at2, frameN, twoN]
  omega
theorem at2_frame2 (b c : List Nat) : at2 (frameN b ++ c) 2 = sumN b := by
  have := sumN_lt b
  simp [at2, frameN, twoN]
  omega
theorem drop_frame (b c : List Nat) : (frameN b ++ c).drop 4 = b ++ c := by simp [frameN, twoN]
theorem getFrame_frameN {b : List Nat} {l : List RecD} (h : readN b = some l) (c : List Nat) : getFrame (frameN b ++ c) = some (l, 4 + b.length) := by
  have e : (b ++ c).take b.length = b := by simp
  unfold getFrame
  rw [if_neg (by simp [frameN_length]; omega), at2_frame0, if_neg (by simp [frameN_length]), drop_frame, e, at2_frame2, if_neg (by simp), h]
/-- A frame that is torn is not there. -/
theorem getFrame_torn {b : List Nat} {k : Nat} (h : k < 4 + b.length) : getFrame ((frameN b).take k) = none := by
  unfold getFrame
  by_cases h4 : k < 4
  · rw [if_pos (by simp; omega)]
  · have e : at2 ((frameN b).take k) 0 = b.length := by
      have g : ∀ i, i < k → ((frameN b).take k).getD i 0 = (frameN b).getD i 0 := fun i hi => by simp [List.getD, List.getElem?_take_of_lt hi]
      have := at2_frame0 b []
      rw [List.append_nil] at this
      rw [← this]
      unfold at2
      rw [g 0 (by omega), g 1 (by omega)]
    have e2 : ((frameN b).take k).length = k := by rw [List.length_take, frameN_length]; omega
    rw [if_neg (by omega), e, if_pos (by omega)]
theorem framesN_frame {b : List Nat} {l : List RecD} (h : readN b = some l) : framesN (frameN b) = ([l], (frameN b).length) := by
  have e := getFrame_frameN h []
  rw [List.append_nil] at e
  have e3 : (frameN b).drop (4 + b.length) = [] := List.drop_eq_nil_of_le (by rw [frameN_length]; omega)
  rw [framesN_some e, e3, framesN_nil, frameN_length]
  rfl
/-- Behind whole frames: one more is read, too; one that is torn is not. -/
theorem framesN_one {b c : List Nat} {ls : List (List RecD)} {l : List RecD} (hb : framesN b = (ls, b.length)) (h : readN c = some l) : framesN (b ++ frameN c) = (ls ++ [l], (b ++ frameN c).length) := by
  rw [framesN_append (by rw [hb]), framesN_frame h, hb]
  simp
theorem framesN_torn {b c : List Nat} {ls : List (List RecD)} {k : Nat} (hb : framesN b = (ls, b.length)) (hk : k < 4 + c.length) : framesN ((b ++ frameN c).take (b.length + k)) = (ls, b.length) := by
  have e : (b ++ frameN c).take (b.length + k) = b ++ (frameN c).take k := by rw [List.take_append, List.take_of_length_le (by omega), Nat.add_sub_cancel_left]
  rw [e, framesN_append (by rw [hb]), hb, framesN_none (getFrame_torn hk)]
  simp
end Go.Proofs.YtcpmkbemkhacnaaDoor
